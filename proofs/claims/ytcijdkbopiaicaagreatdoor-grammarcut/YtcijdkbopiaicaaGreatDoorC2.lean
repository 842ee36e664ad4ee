/- Contracts that the proof of this law leans on: no statement of the seat is proved here. -/
import Derived.Lib.ItoaLen
import Derived.Test.YtcijdkbopiaicaaGreatDoorRows
import Derived.Test.YtcijdkbopiaicaaGreatDoorC0
import Derived.Test.YtcijdkbopiaicaaGreatDoorC1
set_option linter.unusedVariables false
set_option maxRecDepth 100000
set_option maxHeartbeats 8000000
namespace Go.Proofs.YtcijdkbopiaicaaGreatDoor.L2
open Go.RowKit
theorem need_ok (c:Int)(w:World) :
  Calls Tryz.prog 46 #[.bool true,.int .i64 c] w fun e w'=>e=.returned (.tuple #[])∧w'=w:=by
 go_enter Tryz.func46,Tryz.ntmps46
 go_wp2
 go_end0
 exact⟨rfl,rfl⟩
theorem need_no (c:Int)(w:World) :
  Calls Tryz.prog 46 #[.bool false,.int .i64 c] w fun e w'=>e=.panicked [{ v:=.iface 28 (.int .i64 c),recovered:=false }]∧w'=w:=by
 go_enter Tryz.func46,Tryz.ntmps46
 go_wp2
 exact⟨rfl,rfl,rfl⟩
theorem fitting_ok (v:Int)(w:World)(h1:-1000000000000000≤v)(h2:v≤1000000000000000) :
  Calls Tryz.prog 220 #[.int .i64 v] w fun e w'=>e=.returned (.int .i64 v)∧w'=w:=by
 go_enter Tryz.func220,Tryz.ntmps220
 go_wp2
 go_end0
 go_wp2
 go_ret
 exact⟨rfl,rfl⟩
theorem fitting_no (v:Int)(w:World)(h:¬ (-1000000000000000≤v∧v≤1000000000000000)) :
  Calls Tryz.prog 220 #[.int .i64 v] w fun e w'=>e=.panicked [{ v:=.iface 28 (.int .i64 3),recovered:=false }]∧w'=w:=by
 by_cases h1:-1000000000000000≤v
 ·have h2:¬ v≤1000000000000000:=fun k=>h ⟨h1,k⟩
  clear h
  go_enter Tryz.func220,Tryz.ntmps220
  go_wp2
  exact⟨rfl,rfl,rfl,rfl⟩
 ·clear h
  go_enter Tryz.func220,Tryz.ntmps220
  go_wp2
  exact⟨rfl,rfl,rfl,rfl⟩
theorem assert_errno (W:World)(x:Value):(Instr.typeAssert (.iface 28 x) 20 28 true).run Tryz.prog W=.ok (.tuple #[x,.bool true]) W:=by kernel_rfl
theorem settleAt_nil (v:Int)(w:World) :
  Calls Tryz.prog 184 #[.nilIface,.int .i64 v] w fun e w'=>e=.returned (.tuple #[.int .i64 v,.int .i64 0,.int .i64 0])∧w'=w:=by
 go_enter Tryz.func184,Tryz.ntmps184
 go_wp2
 exact bodyPost_ret (v:=.tuple #[.int .i64 v,.int .i64 0,.int .i64 0]) (by simp [results,Tryz.results184,go_sem]) rfl ⟨rfl,rfl⟩
theorem settleAt_thrown (c v:Int)(w:World) :
  Calls Tryz.prog 184 #[.iface 28 (.int .i64 c),.int .i64 v] w fun e w'=>e=.returned (.tuple #[.int .i64 0,.int .i64 0,.int .i64 c])∧w'=w:=by
 have hta:=assert_errno
 go_enter Tryz.func184,Tryz.ntmps184
 go_wp2
 exact bodyPost_ret (v:=.tuple #[.int .i64 0,.int .i64 0,.int .i64 c]) (by simp [results,Tryz.results184,go_sem]) rfl ⟨rfl,rfl⟩
theorem settle_nil (v:Int)(w:World) :
  Calls Tryz.prog 152 #[.nilIface,.int .i64 v] w fun e w'=>e=.returned (.tuple #[.int .i64 v,.int .i64 0])∧w'=w:=by
 go_enter Tryz.func152,Tryz.ntmps152
 go_wp2_with fail
 refine (settleAt_nil _ _).mono ?_
 rintro e w1 ⟨rfl,rfl⟩
 go_wp2
 go_ret2
 exact⟨rfl,rfl⟩
theorem settle_thrown (c v:Int)(w:World) :
  Calls Tryz.prog 152 #[.iface 28 (.int .i64 c),.int .i64 v] w fun e w'=>e=.returned (.tuple #[.int .i64 0,.int .i64 c])∧w'=w:=by
 go_enter Tryz.func152,Tryz.ntmps152
 go_wp2_with fail
 refine (settleAt_thrown _ _ _).mono ?_
 rintro e w1 ⟨rfl,rfl⟩
 go_wp2
 go_ret2
 exact⟨rfl,rfl⟩
theorem plus_idle (b:Nat)(v z:Int)(w:World)(hp:w.cell? ⟨b,0,none⟩=some (.int .i64 v))(hq:w.cell? ⟨b+1,0,none⟩=some (.int .i64 z))(hpz:w.frozen? ⟨b,0,none⟩=false)(hqz:w.frozen? ⟨b+1,0,none⟩=false) :
  CallsD Tryz.prog 222 #[.pointer (some ⟨b,0,none⟩),.pointer (some ⟨b+1,0,none⟩)] .returning w fun e u' w'=>e=.returned (.tuple #[])∧u'=.returning∧∃ w1,Ext w w1∧w'=((w1.setCell ⟨b,0,none⟩ (.int .i64 v)).setCell ⟨b+1,0,none⟩ (.int .i64 0)):=by
 refine callsD_of_wpS Tryz.func222 rfl fun c₀ cs hu=>?_
 refine wpS_region_any 8 rfl (by kernel_rfl) ?_
 refine s2 0 1 ?da4 ?db4
 case' da4 =>
  simp [wpOpS,go_sem,recoverD,hu,Tryz.ntmps222]
  refine s1 1 ?_
  simp [wpOpS,go_sem,hp]
 case' db4 =>
  simp [wpOpS,go_sem,hp,Tryz.ntmps222]
  refine s1 0 ?_
  simp [wpOpS,go_sem,recoverD,hu]
 all_goals
  refine s1 2 ?_
  simp [wpOpS,go_sem]
  refine (settle_nil _ _).mono ?_
  rintro e w' ⟨rfl,rfl⟩
  refine s1 3 ?_
  simp [wpOpS,go_sem]
  refine s2 4 5 ?_ ?_
  ·simp [wpOpS,go_sem]
   refine s2 5 6 ?_ ?_
   ·simp [wpOpS,go_sem]
    refine s1 6 ?_
    simp [wpOpS,go_sem,hp,hpz]
    refine s1 7 ?_
    simp [wpOpS,go_sem,hq,hqz]
    refine s0 ?_
    exact⟨rfl,.returning,by rw [←hu],.tuple #[],results_none (by rfl) _ _ _,rfl,rfl,w.drew,(Ext.refl w).drew,rfl⟩
   ·simp [wpOpS,go_sem,hp,hpz]
    refine s1 5 ?_
    simp [wpOpS,go_sem]
    refine s1 7 ?_
    simp [wpOpS,go_sem,hq,hqz]
    refine s0 ?_
    exact⟨rfl,.returning,by rw [←hu],.tuple #[],results_none (by rfl) _ _ _,rfl,rfl,w.drew,(Ext.refl w).drew,rfl⟩
  ·simp [wpOpS,go_sem]
   refine s1 4 ?_
   simp [wpOpS,go_sem]
   refine s1 6 ?_
   simp [wpOpS,go_sem,hp,hpz]
   refine s1 7 ?_
   simp [wpOpS,go_sem,hq,hqz]
   refine s0 ?_
   exact⟨rfl,.returning,by rw [←hu],.tuple #[],results_none (by rfl) _ _ _,rfl,rfl,w.drew,(Ext.refl w).drew,rfl⟩
theorem plus_catch (b:Nat)(c v z:Int)(older:List PanicEntry)(w:World)(hp:w.cell? ⟨b,0,none⟩=some (.int .i64 v))(hq:w.cell? ⟨b+1,0,none⟩=some (.int .i64 z))(hpz:w.frozen? ⟨b,0,none⟩=false)(hqz:w.frozen? ⟨b+1,0,none⟩=false) :
  CallsD Tryz.prog 222 #[.pointer (some ⟨b,0,none⟩),.pointer (some ⟨b+1,0,none⟩)] (.panicking ({ v:=.iface 28 (.int .i64 c),recovered:=false }::older)) w fun e u' w'=>e=.returned (.tuple #[])∧u'=.panicking ({ v:=.iface 28 (.int .i64 c),recovered:=true }::older)∧∃ w1,Ext w w1∧w'=((w1.setCell ⟨b,0,none⟩ (.int .i64 0)).setCell ⟨b+1,0,none⟩ (.int .i64 c)):=by
 refine callsD_of_wpS Tryz.func222 rfl fun c₀ cs hu=>?_
 refine wpS_region_any 8 rfl (by kernel_rfl) ?_
 refine s2 0 1 ?da5 ?db5
 case' da5 =>
  simp [wpOpS,go_sem,recoverD,hu,Tryz.ntmps222]
  refine s1 1 ?_
  simp [wpOpS,go_sem,hp]
 case' db5 =>
  simp [wpOpS,go_sem,hp,Tryz.ntmps222]
  refine s1 0 ?_
  simp [wpOpS,go_sem,recoverD,hu]
 all_goals
  refine s1 2 ?_
  simp [wpOpS,go_sem]
  refine (settle_thrown _ _ _).mono ?_
  rintro e w' ⟨rfl,rfl⟩
  refine s1 3 ?_
  simp [wpOpS,go_sem]
  refine s2 4 5 ?_ ?_
  ·simp [wpOpS,go_sem]
   refine s2 5 6 ?_ ?_
   ·simp [wpOpS,go_sem]
    refine s1 6 ?_
    simp [wpOpS,go_sem,hp,hpz]
    refine s1 7 ?_
    simp [wpOpS,go_sem,hq,hqz]
    refine s0 ?_
    exact⟨rfl,_,rfl,.tuple #[],results_none (by rfl) _ _ _,rfl,rfl,w.drew,(Ext.refl w).drew,rfl⟩
   ·simp [wpOpS,go_sem,hp,hpz]
    refine s1 5 ?_
    simp [wpOpS,go_sem]
    refine s1 7 ?_
    simp [wpOpS,go_sem,hq,hqz]
    refine s0 ?_
    exact⟨rfl,_,rfl,.tuple #[],results_none (by rfl) _ _ _,rfl,rfl,w.drew,(Ext.refl w).drew,rfl⟩
  ·simp [wpOpS,go_sem]
   refine s1 4 ?_
   simp [wpOpS,go_sem]
   refine s1 6 ?_
   simp [wpOpS,go_sem,hp,hpz]
   refine s1 7 ?_
   simp [wpOpS,go_sem,hq,hqz]
   refine s0 ?_
   exact⟨rfl,_,rfl,.tuple #[],results_none (by rfl) _ _ _,rfl,rfl,w.drew,(Ext.refl w).drew,rfl⟩
theorem times_idle (b:Nat)(v z:Int)(w:World)(hp:w.cell? ⟨b,0,none⟩=some (.int .i64 v))(hq:w.cell? ⟨b+1,0,none⟩=some (.int .i64 z))(hpz:w.frozen? ⟨b,0,none⟩=false)(hqz:w.frozen? ⟨b+1,0,none⟩=false) :
  CallsD Tryz.prog 218 #[.pointer (some ⟨b,0,none⟩),.pointer (some ⟨b+1,0,none⟩)] .returning w fun e u' w'=>e=.returned (.tuple #[])∧u'=.returning∧∃ w1,Ext w w1∧w'=((w1.setCell ⟨b,0,none⟩ (.int .i64 v)).setCell ⟨b+1,0,none⟩ (.int .i64 0)):=by
 refine callsD_of_wpS Tryz.func218 rfl fun c₀ cs hu=>?_
 refine wpS_region_any 8 rfl (by kernel_rfl) ?_
 refine s2 0 1 ?da6 ?db6
 case' da6 =>
  simp [wpOpS,go_sem,recoverD,hu,Tryz.ntmps218]
  refine s1 1 ?_
  simp [wpOpS,go_sem,hp]
 case' db6 =>
  simp [wpOpS,go_sem,hp,Tryz.ntmps218]
  refine s1 0 ?_
  simp [wpOpS,go_sem,recoverD,hu]
 all_goals
  refine s1 2 ?_
  simp [wpOpS,go_sem]
  refine (settle_nil _ _).mono ?_
  rintro e w' ⟨rfl,rfl⟩
  refine s1 3 ?_
  simp [wpOpS,go_sem]
  refine s2 4 5 ?_ ?_
  ·simp [wpOpS,go_sem]
   refine s2 5 6 ?_ ?_
   ·simp [wpOpS,go_sem]
    refine s1 6 ?_
    simp [wpOpS,go_sem,hp,hpz]
    refine s1 7 ?_
    simp [wpOpS,go_sem,hq,hqz]
    refine s0 ?_
    exact⟨rfl,.returning,by rw [←hu],.tuple #[],results_none (by rfl) _ _ _,rfl,rfl,w.drew,(Ext.refl w).drew,rfl⟩
   ·simp [wpOpS,go_sem,hp,hpz]
    refine s1 5 ?_
    simp [wpOpS,go_sem]
    refine s1 7 ?_
    simp [wpOpS,go_sem,hq,hqz]
    refine s0 ?_
    exact⟨rfl,.returning,by rw [←hu],.tuple #[],results_none (by rfl) _ _ _,rfl,rfl,w.drew,(Ext.refl w).drew,rfl⟩
  ·simp [wpOpS,go_sem]
   refine s1 4 ?_
   simp [wpOpS,go_sem]
   refine s1 6 ?_
   simp [wpOpS,go_sem,hp,hpz]
   refine s1 7 ?_
   simp [wpOpS,go_sem,hq,hqz]
   refine s0 ?_
   exact⟨rfl,.returning,by rw [←hu],.tuple #[],results_none (by rfl) _ _ _,rfl,rfl,w.drew,(Ext.refl w).drew,rfl⟩
theorem times_catch (b:Nat)(c v z:Int)(older:List PanicEntry)(w:World)(hp:w.cell? ⟨b,0,none⟩=some (.int .i64 v))(hq:w.cell? ⟨b+1,0,none⟩=some (.int .i64 z))(hpz:w.frozen? ⟨b,0,none⟩=false)(hqz:w.frozen? ⟨b+1,0,none⟩=false) :
  CallsD Tryz.prog 218 #[.pointer (some ⟨b,0,none⟩),.pointer (some ⟨b+1,0,none⟩)] (.panicking ({ v:=.iface 28 (.int .i64 c),recovered:=false }::older)) w fun e u' w'=>e=.returned (.tuple #[])∧u'=.panicking ({ v:=.iface 28 (.int .i64 c),recovered:=true }::older)∧∃ w1,Ext w w1∧w'=((w1.setCell ⟨b,0,none⟩ (.int .i64 0)).setCell ⟨b+1,0,none⟩ (.int .i64 c)):=by
 refine callsD_of_wpS Tryz.func218 rfl fun c₀ cs hu=>?_
 refine wpS_region_any 8 rfl (by kernel_rfl) ?_
 refine s2 0 1 ?da7 ?db7
 case' da7 =>
  simp [wpOpS,go_sem,recoverD,hu,Tryz.ntmps218]
  refine s1 1 ?_
  simp [wpOpS,go_sem,hp]
 case' db7 =>
  simp [wpOpS,go_sem,hp,Tryz.ntmps218]
  refine s1 0 ?_
  simp [wpOpS,go_sem,recoverD,hu]
 all_goals
  refine s1 2 ?_
  simp [wpOpS,go_sem]
  refine (settle_thrown _ _ _).mono ?_
  rintro e w' ⟨rfl,rfl⟩
  refine s1 3 ?_
  simp [wpOpS,go_sem]
  refine s2 4 5 ?_ ?_
  ·simp [wpOpS,go_sem]
   refine s2 5 6 ?_ ?_
   ·simp [wpOpS,go_sem]
    refine s1 6 ?_
    simp [wpOpS,go_sem,hp,hpz]
    refine s1 7 ?_
    simp [wpOpS,go_sem,hq,hqz]
    refine s0 ?_
    exact⟨rfl,_,rfl,.tuple #[],results_none (by rfl) _ _ _,rfl,rfl,w.drew,(Ext.refl w).drew,rfl⟩
   ·simp [wpOpS,go_sem,hp,hpz]
    refine s1 5 ?_
    simp [wpOpS,go_sem]
    refine s1 7 ?_
    simp [wpOpS,go_sem,hq,hqz]
    refine s0 ?_
    exact⟨rfl,_,rfl,.tuple #[],results_none (by rfl) _ _ _,rfl,rfl,w.drew,(Ext.refl w).drew,rfl⟩
  ·simp [wpOpS,go_sem]
   refine s1 4 ?_
   simp [wpOpS,go_sem]
   refine s1 6 ?_
   simp [wpOpS,go_sem,hp,hpz]
   refine s1 7 ?_
   simp [wpOpS,go_sem,hq,hqz]
   refine s0 ?_
   exact⟨rfl,_,rfl,.tuple #[],results_none (by rfl) _ _ _,rfl,rfl,w.drew,(Ext.refl w).drew,rfl⟩
theorem tm_idle (b:Nat)(v z:Int)(w:World)(hp:w.cell? ⟨b,0,none⟩=some (.int .i64 v))(hq:w.cell? ⟨b+1,0,none⟩=some (.int .i64 z))(hpz:w.frozen? ⟨b,0,none⟩=false)(hqz:w.frozen? ⟨b+1,0,none⟩=false) :
  CallsD Tryz.prog 162 #[.pointer (some ⟨b,0,none⟩),.pointer (some ⟨b+1,0,none⟩)] .returning w fun e u' w'=>e=.returned (.tuple #[])∧u'=.returning∧∃ w1,Ext w w1∧w'=((w1.setCell ⟨b,0,none⟩ (.int .i64 v)).setCell ⟨b+1,0,none⟩ (.int .i64 0)):=by
 refine callsD_of_wpS Tryz.func162 rfl fun c₀ cs hu=>?_
 refine wpS_region_any 8 rfl (by kernel_rfl) ?_
 refine s2 0 1 ?da8 ?db8
 case' da8 =>
  simp [wpOpS,go_sem,recoverD,hu,Tryz.ntmps162]
  refine s1 1 ?_
  simp [wpOpS,go_sem,hp]
 case' db8 =>
  simp [wpOpS,go_sem,hp,Tryz.ntmps162]
  refine s1 0 ?_
  simp [wpOpS,go_sem,recoverD,hu]
 all_goals
  refine s1 2 ?_
  simp [wpOpS,go_sem]
  refine (settle_nil _ _).mono ?_
  rintro e w' ⟨rfl,rfl⟩
  refine s1 3 ?_
  simp [wpOpS,go_sem]
  refine s2 4 5 ?_ ?_
  ·simp [wpOpS,go_sem]
   refine s2 5 6 ?_ ?_
   ·simp [wpOpS,go_sem]
    refine s1 6 ?_
    simp [wpOpS,go_sem,hp,hpz]
    refine s1 7 ?_
    simp [wpOpS,go_sem,hq,hqz]
    refine s0 ?_
    exact⟨rfl,.returning,by rw [←hu],.tuple #[],results_none (by rfl) _ _ _,rfl,rfl,w.drew,(Ext.refl w).drew,rfl⟩
   ·simp [wpOpS,go_sem,hp,hpz]
    refine s1 5 ?_
    simp [wpOpS,go_sem]
    refine s1 7 ?_
    simp [wpOpS,go_sem,hq,hqz]
    refine s0 ?_
    exact⟨rfl,.returning,by rw [←hu],.tuple #[],results_none (by rfl) _ _ _,rfl,rfl,w.drew,(Ext.refl w).drew,rfl⟩
  ·simp [wpOpS,go_sem]
   refine s1 4 ?_
   simp [wpOpS,go_sem]
   refine s1 6 ?_
   simp [wpOpS,go_sem,hp,hpz]
   refine s1 7 ?_
   simp [wpOpS,go_sem,hq,hqz]
   refine s0 ?_
   exact⟨rfl,.returning,by rw [←hu],.tuple #[],results_none (by rfl) _ _ _,rfl,rfl,w.drew,(Ext.refl w).drew,rfl⟩
theorem tm_catch (b:Nat)(c v z:Int)(older:List PanicEntry)(w:World)(hp:w.cell? ⟨b,0,none⟩=some (.int .i64 v))(hq:w.cell? ⟨b+1,0,none⟩=some (.int .i64 z))(hpz:w.frozen? ⟨b,0,none⟩=false)(hqz:w.frozen? ⟨b+1,0,none⟩=false) :
  CallsD Tryz.prog 162 #[.pointer (some ⟨b,0,none⟩),.pointer (some ⟨b+1,0,none⟩)] (.panicking ({ v:=.iface 28 (.int .i64 c),recovered:=false }::older)) w fun e u' w'=>e=.returned (.tuple #[])∧u'=.panicking ({ v:=.iface 28 (.int .i64 c),recovered:=true }::older)∧∃ w1,Ext w w1∧w'=((w1.setCell ⟨b,0,none⟩ (.int .i64 0)).setCell ⟨b+1,0,none⟩ (.int .i64 c)):=by
 refine callsD_of_wpS Tryz.func162 rfl fun c₀ cs hu=>?_
 refine wpS_region_any 8 rfl (by kernel_rfl) ?_
 refine s2 0 1 ?da9 ?db9
 case' da9 =>
  simp [wpOpS,go_sem,recoverD,hu,Tryz.ntmps162]
  refine s1 1 ?_
  simp [wpOpS,go_sem,hp]
 case' db9 =>
  simp [wpOpS,go_sem,hp,Tryz.ntmps162]
  refine s1 0 ?_
  simp [wpOpS,go_sem,recoverD,hu]
 all_goals
  refine s1 2 ?_
  simp [wpOpS,go_sem]
  refine (settle_thrown _ _ _).mono ?_
  rintro e w' ⟨rfl,rfl⟩
  refine s1 3 ?_
  simp [wpOpS,go_sem]
  refine s2 4 5 ?_ ?_
  ·simp [wpOpS,go_sem]
   refine s2 5 6 ?_ ?_
   ·simp [wpOpS,go_sem]
    refine s1 6 ?_
    simp [wpOpS,go_sem,hp,hpz]
    refine s1 7 ?_
    simp [wpOpS,go_sem,hq,hqz]
    refine s0 ?_
    exact⟨rfl,_,rfl,.tuple #[],results_none (by rfl) _ _ _,rfl,rfl,w.drew,(Ext.refl w).drew,rfl⟩
   ·simp [wpOpS,go_sem,hp,hpz]
    refine s1 5 ?_
    simp [wpOpS,go_sem]
    refine s1 7 ?_
    simp [wpOpS,go_sem,hq,hqz]
    refine s0 ?_
    exact⟨rfl,_,rfl,.tuple #[],results_none (by rfl) _ _ _,rfl,rfl,w.drew,(Ext.refl w).drew,rfl⟩
  ·simp [wpOpS,go_sem]
   refine s1 4 ?_
   simp [wpOpS,go_sem]
   refine s1 6 ?_
   simp [wpOpS,go_sem,hp,hpz]
   refine s1 7 ?_
   simp [wpOpS,go_sem,hq,hqz]
   refine s0 ?_
   exact⟨rfl,_,rfl,.tuple #[],results_none (by rfl) _ _ _,rfl,rfl,w.drew,(Ext.refl w).drew,rfl⟩
theorem tr_idle (b:Nat)(v z:Int)(w:World)(hp:w.cell? ⟨b,0,none⟩=some (.int .i64 v))(hq:w.cell? ⟨b+1,0,none⟩=some (.int .i64 z))(hpz:w.frozen? ⟨b,0,none⟩=false)(hqz:w.frozen? ⟨b+1,0,none⟩=false) :
  CallsD Tryz.prog 151 #[.pointer (some ⟨b,0,none⟩),.pointer (some ⟨b+1,0,none⟩)] .returning w fun e u' w'=>e=.returned (.tuple #[])∧u'=.returning∧∃ w1,Ext w w1∧w'=((w1.setCell ⟨b,0,none⟩ (.int .i64 v)).setCell ⟨b+1,0,none⟩ (.int .i64 0)):=by
 refine callsD_of_wpS Tryz.func151 rfl fun c₀ cs hu=>?_
 refine wpS_region_any 8 rfl (by kernel_rfl) ?_
 refine s2 0 1 ?da10 ?db10
 case' da10 =>
  simp [wpOpS,go_sem,recoverD,hu,Tryz.ntmps151]
  refine s1 1 ?_
  simp [wpOpS,go_sem,hp]
 case' db10 =>
  simp [wpOpS,go_sem,hp,Tryz.ntmps151]
  refine s1 0 ?_
  simp [wpOpS,go_sem,recoverD,hu]
 all_goals
  refine s1 2 ?_
  simp [wpOpS,go_sem]
  refine (settle_nil _ _).mono ?_
  rintro e w' ⟨rfl,rfl⟩
  refine s1 3 ?_
  simp [wpOpS,go_sem]
  refine s2 4 5 ?_ ?_
  ·simp [wpOpS,go_sem]
   refine s2 5 6 ?_ ?_
   ·simp [wpOpS,go_sem]
    refine s1 6 ?_
    simp [wpOpS,go_sem,hp,hpz]
    refine s1 7 ?_
    simp [wpOpS,go_sem,hq,hqz]
    refine s0 ?_
    exact⟨rfl,.returning,by rw [←hu],.tuple #[],results_none (by rfl) _ _ _,rfl,rfl,w.drew,(Ext.refl w).drew,rfl⟩
   ·simp [wpOpS,go_sem,hp,hpz]
    refine s1 5 ?_
    simp [wpOpS,go_sem]
    refine s1 7 ?_
    simp [wpOpS,go_sem,hq,hqz]
    refine s0 ?_
    exact⟨rfl,.returning,by rw [←hu],.tuple #[],results_none (by rfl) _ _ _,rfl,rfl,w.drew,(Ext.refl w).drew,rfl⟩
  ·simp [wpOpS,go_sem]
   refine s1 4 ?_
   simp [wpOpS,go_sem]
   refine s1 6 ?_
   simp [wpOpS,go_sem,hp,hpz]
   refine s1 7 ?_
   simp [wpOpS,go_sem,hq,hqz]
   refine s0 ?_
   exact⟨rfl,.returning,by rw [←hu],.tuple #[],results_none (by rfl) _ _ _,rfl,rfl,w.drew,(Ext.refl w).drew,rfl⟩
theorem tr_catch (b:Nat)(c v z:Int)(older:List PanicEntry)(w:World)(hp:w.cell? ⟨b,0,none⟩=some (.int .i64 v))(hq:w.cell? ⟨b+1,0,none⟩=some (.int .i64 z))(hpz:w.frozen? ⟨b,0,none⟩=false)(hqz:w.frozen? ⟨b+1,0,none⟩=false) :
  CallsD Tryz.prog 151 #[.pointer (some ⟨b,0,none⟩),.pointer (some ⟨b+1,0,none⟩)] (.panicking ({ v:=.iface 28 (.int .i64 c),recovered:=false }::older)) w fun e u' w'=>e=.returned (.tuple #[])∧u'=.panicking ({ v:=.iface 28 (.int .i64 c),recovered:=true }::older)∧∃ w1,Ext w w1∧w'=((w1.setCell ⟨b,0,none⟩ (.int .i64 0)).setCell ⟨b+1,0,none⟩ (.int .i64 c)):=by
 refine callsD_of_wpS Tryz.func151 rfl fun c₀ cs hu=>?_
 refine wpS_region_any 8 rfl (by kernel_rfl) ?_
 refine s2 0 1 ?da11 ?db11
 case' da11 =>
  simp [wpOpS,go_sem,recoverD,hu,Tryz.ntmps151]
  refine s1 1 ?_
  simp [wpOpS,go_sem,hp]
 case' db11 =>
  simp [wpOpS,go_sem,hp,Tryz.ntmps151]
  refine s1 0 ?_
  simp [wpOpS,go_sem,recoverD,hu]
 all_goals
  refine s1 2 ?_
  simp [wpOpS,go_sem]
  refine (settle_thrown _ _ _).mono ?_
  rintro e w' ⟨rfl,rfl⟩
  refine s1 3 ?_
  simp [wpOpS,go_sem]
  refine s2 4 5 ?_ ?_
  ·simp [wpOpS,go_sem]
   refine s2 5 6 ?_ ?_
   ·simp [wpOpS,go_sem]
    refine s1 6 ?_
    simp [wpOpS,go_sem,hp,hpz]
    refine s1 7 ?_
    simp [wpOpS,go_sem,hq,hqz]
    refine s0 ?_
    exact⟨rfl,_,rfl,.tuple #[],results_none (by rfl) _ _ _,rfl,rfl,w.drew,(Ext.refl w).drew,rfl⟩
   ·simp [wpOpS,go_sem,hp,hpz]
    refine s1 5 ?_
    simp [wpOpS,go_sem]
    refine s1 7 ?_
    simp [wpOpS,go_sem,hq,hqz]
    refine s0 ?_
    exact⟨rfl,_,rfl,.tuple #[],results_none (by rfl) _ _ _,rfl,rfl,w.drew,(Ext.refl w).drew,rfl⟩
  ·simp [wpOpS,go_sem]
   refine s1 4 ?_
   simp [wpOpS,go_sem]
   refine s1 6 ?_
   simp [wpOpS,go_sem,hp,hpz]
   refine s1 7 ?_
   simp [wpOpS,go_sem,hq,hqz]
   refine s0 ?_
   exact⟨rfl,_,rfl,.tuple #[],results_none (by rfl) _ _ _,rfl,rfl,w.drew,(Ext.refl w).drew,rfl⟩
theorem make_func (fn:Fn)(first cap:Array Value)(w:World):(Instr.makeFunc fn first cap).run Tryz.prog w=.ok (.func fn first cap) w:=rfl
theorem plus_ok (a b:Int)(w:World)(a1:-1000000000000000≤a)(a2:a≤1000000000000000)(b1:-1000000000000000≤b)(b2:b≤1000000000000000)(s1:-1000000000000000≤a+b)(s2:a+b≤1000000000000000) :
  Calls Tryz.prog 191 #[.int .i64 a,.int .i64 b] w fun e w'=>e=.returned (.tuple #[.int .i64 (a+b),.int .i64 0])∧Ext w w':=by
 have hmf:=make_func
 go_enter_defers Tryz.func191,Tryz.ntmps191
 go_wp2_with (go_at_call 220;refine (fitting_ok _ _ (by omega) (by omega)).mono ?_;rintro e w' ⟨rfl,rfl⟩)
 refine leaves_cons (f:=222) (args:=#[.pointer (some ⟨w.heap.size,0,none⟩),.pointer (some ⟨w.heap.size+1,0,none⟩)]) (by simp) (by simp [go_sem]) ?_
 refine (plus_idle w.heap.size (a+b) 0 _ ?_ ?_ ?_ ?_).mono ?_
 ·simp [go_sem]
 ·simp [go_sem]
 ·simp [go_sem]
 ·simp [go_sem]
 rintro e u' w'' ⟨rfl,rfl,w2,hy,rfl⟩
 have hp2:(w2.cell? ⟨w.heap.size,0,none⟩).isSome=true:=by rw [hy.cell _ _ (by simp;omega)];simp [go_sem]
 have hq2:(w2.cell? ⟨w.heap.size+1,0,none⟩).isSome=true:=by rw [hy.cell _ _ (by simp)];simp [go_sem]
 obtain⟨vp,hp2⟩:=Option.isSome_iff_exists.1 hp2
 obtain⟨vq,hq2⟩:=Option.isSome_iff_exists.1 hq2
 have hx0:Ext w w2:=Ext.trans (by repeat (first | exact Ext.refl _ | apply Ext.alloc)) hy
 simp [Leaves,settle,results,Tryz.results191,go_sem,hp2,hq2]
 exact (hx0.setCell (Nat.le_refl _) _).setCell (by show w.heap.size≤w.heap.size+1;omega) _
theorem plus_noS (a b:Int)(w:World)(a1:-1000000000000000≤a)(a2:a≤1000000000000000)(b1:-1000000000000000≤b)(b2:b≤1000000000000000)(h:¬ (-1000000000000000≤a+b∧a+b≤1000000000000000)) :
  Calls Tryz.prog 191 #[.int .i64 a,.int .i64 b] w fun e w'=>e=.returned (.tuple #[.int .i64 0,.int .i64 3])∧Ext w w':=by
 have hmf:=make_func
 go_enter_defers Tryz.func191,Tryz.ntmps191
 go_wp2_with fail
 refine (fitting_ok _ _ (by omega) (by omega)).mono ?_
 rintro e w1 ⟨rfl,rfl⟩
 go_wp2_with fail
 refine (fitting_ok _ _ (by omega) (by omega)).mono ?_
 rintro e w1 ⟨rfl,rfl⟩
 go_wp2_with fail
 refine (fitting_no _ _ (by omega)).mono ?_
 rintro e w1 ⟨rfl,rfl⟩
 go_wp2_with fail
 refine leaves_cons (f:=222) (args:=#[.pointer (some ⟨w.heap.size,0,none⟩),.pointer (some ⟨w.heap.size+1,0,none⟩)]) (by simp) (by simp [go_sem]) ?_
 refine (plus_catch w.heap.size 3 0 0 [] _ ?_ ?_ ?_ ?_).mono ?_
 ·simp [go_sem]
 ·simp [go_sem]
 ·simp [go_sem]
 ·simp [go_sem]
 rintro e u' w'' ⟨rfl,rfl,w2,hy,rfl⟩
 have hp2:(w2.cell? ⟨w.heap.size,0,none⟩).isSome=true:=by rw [hy.cell _ _ (by simp;omega)];simp [go_sem]
 have hq2:(w2.cell? ⟨w.heap.size+1,0,none⟩).isSome=true:=by rw [hy.cell _ _ (by simp)];simp [go_sem]
 obtain⟨vp,hp2⟩:=Option.isSome_iff_exists.1 hp2
 obtain⟨vq,hq2⟩:=Option.isSome_iff_exists.1 hq2
 have hx0:Ext w w2:=Ext.trans (by repeat (first | exact Ext.refl _ | apply Ext.alloc)) hy
 simp [Leaves,settle,results,Tryz.results191,go_sem,hp2,hq2]
 exact (hx0.setCell (Nat.le_refl _) _).setCell (by show w.heap.size≤w.heap.size+1;omega) _
end Go.Proofs.YtcijdkbopiaicaaGreatDoor.L2
namespace Go.Proofs.YtcijdkbopiaicaaGreatDoor.L2
namespace U
theorem low (a:Nat)(ha:a<18446744073709551616):bits .and .u64 (a:Int) 4294967295=((a % 4294967296:Nat):Int):=by
 rw [show (4294967295:Int)=((4294967295:Nat):Int) from rfl,bits_and_u64_nat a 4294967295 ha (by omega),show (4294967295:Nat)=2 ^ 32-1 from rfl,Nat.and_two_pow_sub_one_eq_mod a 32]
theorem high (a:Nat):(a:Int) / 4294967296=((a / 4294967296:Nat):Int):=by omega
theorem mul (a b:Nat):(a:Int) * (b:Int)=((a * b:Nat):Int):=(Int.natCast_mul a b).symm
theorem add (a b:Nat):(a:Int)+(b:Int)=((a+b:Nat):Int):=(Int.natCast_add a b).symm
theorem wrapMod (a:Nat):IntKind.u64.wrap (a:Int)=((a % 18446744073709551616:Nat):Int):=by rw [IntKind.wrap_u64];omega
theorem wrapLt (a:Nat)(ha:a<18446744073709551616):IntKind.u64.wrap (a:Int)=(a:Int):=by rw [IntKind.wrap_u64];omega
end U
def mag (a:Int):Nat:=a.natAbs
def sgn (a b:Int):Bool:=decide (a<0) != decide (b<0)
def hiW (n:Nat):Nat:=n / 18446744073709551616
def loW (n:Nat):Nat:=n % 18446744073709551616
def Fit (v:Int):Prop:=-1000000000000000≤v∧v≤1000000000000000
theorem mag_nn (a:Int)(h:0≤a):((mag a:Nat):Int)=a:=by unfold mag;omega
theorem mag_neg (a:Int)(h:a<0):((mag a:Nat):Int) = -a:=by unfold mag;omega
theorem prod_mag (a b:Int):a * b=if sgn a b then -((mag a * mag b:Nat):Int) else ((mag a * mag b:Nat):Int):=by
 rw [Int.natCast_mul]
 rcases Int.lt_or_le a 0 with ha | ha <;> rcases Int.lt_or_le b 0 with hb | hb
 ·have e:sgn a b=false:=by simp [sgn,ha,hb]
  rw [e,mag_neg a ha,mag_neg b hb];simp [Int.neg_mul_neg]
 ·have e:sgn a b=true:=by simp [sgn,ha];omega
  rw [e,mag_neg a ha,mag_nn b hb];simp [Int.neg_mul]
 ·have e:sgn a b=true:=by simp [sgn,hb];omega
  rw [e,mag_nn a ha,mag_neg b hb];simp [Int.mul_neg]
 ·have e:sgn a b=false:=by simp [sgn];omega
  rw [e,mag_nn a ha,mag_nn b hb];simp
end Go.Proofs.YtcijdkbopiaicaaGreatDoor.L2
namespace Go.Proofs.YtcijdkbopiaicaaGreatDoor.L2
open Go.RowKit
theorem magnitude_neg (a:Int)(w:World)(h1:-9223372036854775808≤a)(h2:a<0) :
  Calls Tryz.prog 242 #[.int .i64 a] w fun e w'=>e=.returned (.int .u64 (-a))∧w'=w:=by
 have HE:Hid (-(a+1)+1 = -a):=by unfold Hid;omega
 go_enter Tryz.func242,Tryz.ntmps242
 go_wp2
 rw [HE.out]
 go_ret
 exact⟨rfl,rfl⟩
theorem magnitude_nn (a:Int)(w:World)(h1:0≤a)(h2:a≤9223372036854775807) :
  Calls Tryz.prog 242 #[.int .i64 a] w fun e w'=>e=.returned (.int .u64 a)∧w'=w:=by
 go_enter Tryz.func242,Tryz.ntmps242
 go_wp2
 go_ret
 exact⟨rfl,rfl⟩
def I64 (a:Int):Prop:=-9223372036854775808≤a∧a≤9223372036854775807
theorem magnitude_any (a:Int)(w:World)(h:I64 a) :
  Calls Tryz.prog 242 #[.int .i64 a] w fun e w'=>e=.returned (.int .u64 (mag a:Nat))∧w'=w:=by
 obtain⟨h1,h2⟩:=h
 rcases Int.lt_or_le a 0 with ha | ha
 ·rw [mag_neg a ha];exact magnitude_neg a w h1 ha
 ·rw [mag_nn a ha];exact magnitude_nn a w ha h2
theorem mag_lt (a:Int)(h:I64 a):mag a≤9223372036854775808:=by
 obtain⟨h1,h2⟩:=h
 unfold mag;omega
theorem mul64_any (x y:Nat)(hx:x<18446744073709551616)(hy:y<18446744073709551616)(w:World) :
  Calls Tryz.prog 241 #[.int .u64 x,.int .u64 y] w fun e w'=>e=.returned (.tuple #[.int .u64 (hiW (x * y):Nat),.int .u64 (loW (x * y):Nat)])∧w'=w:=by
 unfold hiW loW
 obtain⟨bd,bt,bw,hhi⟩:=Lib.mul64_hi x y hx hy
 have ba:=Lib.half_mul_le (a:=x / 4294967296) (b:=y / 4294967296) (by omega) (by omega)
 have bb:=Lib.half_mul_le (a:=x / 4294967296) (b:=y % 4294967296) (by omega) (by omega)
 have bc:=Lib.half_mul_le (a:=x % 4294967296) (b:=y / 4294967296) (by omega) (by omega)
 have ba':x / 4294967296 * (y / 4294967296)<18446744073709551616:=by omega
 have bb':x / 4294967296 * (y % 4294967296)<18446744073709551616:=by omega
 have bc':x % 4294967296 * (y / 4294967296)<18446744073709551616:=by omega
 have bh1:x / 4294967296 * (y / 4294967296)+(x / 4294967296 * (y % 4294967296)+x % 4294967296 * (y % 4294967296) / 4294967296) / 4294967296<18446744073709551616:=by omega
 have bh:x / 4294967296 * (y / 4294967296)+(x / 4294967296 * (y % 4294967296)+x % 4294967296 * (y % 4294967296) / 4294967296) / 4294967296+((x / 4294967296 * (y % 4294967296)+x % 4294967296 * (y % 4294967296) / 4294967296) % 4294967296+x % 4294967296 * (y / 4294967296)) / 4294967296<18446744073709551616:=by omega
 go_enter Tryz.func241,Tryz.ntmps241
 go_wp2
 simp only [U.low x hx,U.low y hy,U.high,U.mul,U.add,U.wrapLt _ bd,U.wrapLt _ bb',U.wrapLt _ bt,U.low _ bt,U.wrapLt _ bc',U.wrapLt _ bw,U.wrapLt _ ba',U.wrapLt _ bh1,U.wrapLt _ bh,U.wrapMod (x * y)]
 rw [hhi]
 go_ret2
 exact⟨rfl,rfl⟩
theorem multiply_any (a b:Int)(w:World)(ha:I64 a)(hb:I64 b) :
  Calls Tryz.prog 219 #[.int .i64 a,.int .i64 b] w fun e w'=>e=.returned (.tuple #[.int .u64 (hiW (mag a * mag b):Nat),.int .u64 (loW (mag a * mag b):Nat),.bool (sgn a b)])∧w'=w:=by
 have h1:=mag_lt a ha
 have h2:=mag_lt b hb
 have HS:Hid ((!(decide (a<0)==decide (b<0)))=sgn a b):=rfl
 go_enter Tryz.func219,Tryz.ntmps219
 go_wp2_with fail
 refine (magnitude_any a _ ha).mono ?_
 rintro e w1 ⟨rfl,rfl⟩
 go_wp2_with fail
 refine (magnitude_any b _ hb).mono ?_
 rintro e w1 ⟨rfl,rfl⟩
 go_wp2_with fail
 refine (mul64_any (mag a) (mag b) (by omega) (by omega) _).mono ?_
 rintro e w1 ⟨rfl,rfl⟩
 go_wp2_with fail
 rw [HS.out]
 go_ret3
 exact⟨rfl,rfl⟩
theorem signed_any (n:Int)(s:Bool)(w:World)(h:I64 n)(h0:0≤n) :
  Calls Tryz.prog 221 #[.int .i64 n,.bool s] w fun e w'=>e=.returned (.int .i64 (if s then -n else n))∧w'=w:=by
 obtain⟨h1,h2⟩:=h
 cases s
 ·go_enter Tryz.func221,Tryz.ntmps221
  go_wp2
  go_ret
  exact⟨rfl,rfl⟩
 ·go_enter Tryz.func221,Tryz.ntmps221
  go_wp2
  go_ret
  exact⟨rfl,rfl⟩
theorem signed_false (n:Int)(w:World)(h0:0≤n)(h1:n≤1000000000000000) :
  Calls Tryz.prog 221 #[.int .i64 n,.bool false] w fun e w'=>e=.returned (.int .i64 n)∧w'=w:=signed_any n false w ⟨by omega,by omega⟩ h0
theorem signed_true (n:Int)(w:World)(h0:0≤n)(h1:n≤1000000000000000) :
  Calls Tryz.prog 221 #[.int .i64 n,.bool true] w fun e w'=>e=.returned (.int .i64 (-n))∧w'=w:=signed_any n true w ⟨by omega,by omega⟩ h0
theorem multiply_hid (a b:Int)(ha:I64 a)(hb:I64 b)(s:Bool)(hs:sgn a b=s) :
  Hid (∀ w,Calls Tryz.prog 219 #[.int .i64 a,.int .i64 b] w fun e w'=>e=.returned (.tuple #[.int .u64 (hiW (mag a * mag b):Nat),.int .u64 (loW (mag a * mag b):Nat),.bool s])∧w'=w):=by
 subst hs
 exact fun w=>multiply_any a b w ha hb
theorem times_false (v n N:Int)(w:World)
  (Hmul:Hid (∀ w,Calls Tryz.prog 219 #[.int .i64 v,.int .i64 n] w fun e w'=>e=.returned (.tuple #[.int .u64 0,.int .u64 N,.bool false])∧w'=w))
  (v1:-1000000000000000≤v) (v2:v≤1000000000000000) (n1:0≤N) (n2:N≤1000000000000000) :
  Calls Tryz.prog 190 #[.int .i64 v,.int .i64 n] w fun e w'=>e=.returned (.tuple #[.int .i64 (N),.int .i64 0])∧Ext w w':=by
 have hmf:=make_func
 go_enter_defers Tryz.func190,Tryz.ntmps190
 go_wp2_with fail
 refine (fitting_ok _ _ v1 v2).mono ?_
 rintro e w1 ⟨rfl,rfl⟩
 go_wp2_with fail
 refine (Hmul.out _).mono ?_
 rintro e w1 ⟨rfl,rfl⟩
 go_wp2_with fail
 refine (need_ok _ _).mono ?_
 rintro e w1 ⟨rfl,rfl⟩
 go_wp2_with fail
 refine (signed_false N _ n1 n2).mono ?_
 rintro e w1 ⟨rfl,rfl⟩
 go_wp2_with fail
 refine leaves_cons (f:=218) (args:=#[.pointer (some ⟨w.heap.size,0,none⟩),.pointer (some ⟨w.heap.size+1,0,none⟩)]) (by simp) (by simp [go_sem]) ?_
 refine (times_idle w.heap.size (N) 0 _ ?_ ?_ ?_ ?_).mono ?_
 ·simp [go_sem]
 ·simp [go_sem]
 ·simp [go_sem]
 ·simp [go_sem]
 rintro e u' w'' ⟨rfl,rfl,w2,hy,rfl⟩
 have hp2:(w2.cell? ⟨w.heap.size,0,none⟩).isSome=true:=by rw [hy.cell _ _ (by simp;omega)];simp [go_sem]
 have hq2:(w2.cell? ⟨w.heap.size+1,0,none⟩).isSome=true:=by rw [hy.cell _ _ (by simp)];simp [go_sem]
 obtain⟨vp,hp2⟩:=Option.isSome_iff_exists.1 hp2
 obtain⟨vq,hq2⟩:=Option.isSome_iff_exists.1 hq2
 have hx0:Ext w w2:=Ext.trans (by repeat (first | exact Ext.refl _ | apply Ext.alloc)) hy
 simp [Leaves,settle,results,Tryz.results190,go_sem,hp2,hq2]
 exact (hx0.setCell (Nat.le_refl _) _).setCell (by show w.heap.size≤w.heap.size+1;omega) _
theorem times_true (v n N:Int)(w:World)
  (Hmul:Hid (∀ w,Calls Tryz.prog 219 #[.int .i64 v,.int .i64 n] w fun e w'=>e=.returned (.tuple #[.int .u64 0,.int .u64 N,.bool true])∧w'=w))
  (v1:-1000000000000000≤v) (v2:v≤1000000000000000) (n1:0≤N) (n2:N≤1000000000000000) :
  Calls Tryz.prog 190 #[.int .i64 v,.int .i64 n] w fun e w'=>e=.returned (.tuple #[.int .i64 (-N),.int .i64 0])∧Ext w w':=by
 have hmf:=make_func
 go_enter_defers Tryz.func190,Tryz.ntmps190
 go_wp2_with fail
 refine (fitting_ok _ _ v1 v2).mono ?_
 rintro e w1 ⟨rfl,rfl⟩
 go_wp2_with fail
 refine (Hmul.out _).mono ?_
 rintro e w1 ⟨rfl,rfl⟩
 go_wp2_with fail
 refine (need_ok _ _).mono ?_
 rintro e w1 ⟨rfl,rfl⟩
 go_wp2_with fail
 refine (signed_true N _ n1 n2).mono ?_
 rintro e w1 ⟨rfl,rfl⟩
 go_wp2_with fail
 refine leaves_cons (f:=218) (args:=#[.pointer (some ⟨w.heap.size,0,none⟩),.pointer (some ⟨w.heap.size+1,0,none⟩)]) (by simp) (by simp [go_sem]) ?_
 refine (times_idle w.heap.size (-N) 0 _ ?_ ?_ ?_ ?_).mono ?_
 ·simp [go_sem]
 ·simp [go_sem]
 ·simp [go_sem]
 ·simp [go_sem]
 rintro e u' w'' ⟨rfl,rfl,w2,hy,rfl⟩
 have hp2:(w2.cell? ⟨w.heap.size,0,none⟩).isSome=true:=by rw [hy.cell _ _ (by simp;omega)];simp [go_sem]
 have hq2:(w2.cell? ⟨w.heap.size+1,0,none⟩).isSome=true:=by rw [hy.cell _ _ (by simp)];simp [go_sem]
 obtain⟨vp,hp2⟩:=Option.isSome_iff_exists.1 hp2
 obtain⟨vq,hq2⟩:=Option.isSome_iff_exists.1 hq2
 have hx0:Ext w w2:=Ext.trans (by repeat (first | exact Ext.refl _ | apply Ext.alloc)) hy
 simp [Leaves,settle,results,Tryz.results190,go_sem,hp2,hq2]
 exact (hx0.setCell (Nat.le_refl _) _).setCell (by show w.heap.size≤w.heap.size+1;omega) _
theorem times_hi (v n hi lo:Int)(s:Bool)(w:World)
  (Hmul:Hid (∀ w,Calls Tryz.prog 219 #[.int .i64 v,.int .i64 n] w fun e w'=>e=.returned (.tuple #[.int .u64 hi,.int .u64 lo,.bool s])∧w'=w))
  (v1:-1000000000000000≤v) (v2:v≤1000000000000000) (hh:(hi==0)=false) :
  Calls Tryz.prog 190 #[.int .i64 v,.int .i64 n] w fun e w'=>e=.returned (.tuple #[.int .i64 0,.int .i64 3])∧Ext w w':=by
 have hmf:=make_func
 go_enter_defers Tryz.func190,Tryz.ntmps190
 go_wp2_with fail
 refine (fitting_ok _ _ v1 v2).mono ?_
 rintro e w1 ⟨rfl,rfl⟩
 go_wp2_with fail
 refine (Hmul.out _).mono ?_
 rintro e w1 ⟨rfl,rfl⟩
 go_wp2_with fail
 refine (need_no _ _).mono ?_
 rintro e w1 ⟨rfl,rfl⟩
 go_wp2_with fail
 refine leaves_cons (f:=218) (args:=#[.pointer (some ⟨w.heap.size,0,none⟩),.pointer (some ⟨w.heap.size+1,0,none⟩)]) (by simp) (by simp [go_sem]) ?_
 refine (times_catch w.heap.size 3 0 0 [] _ ?_ ?_ ?_ ?_).mono ?_
 ·simp [go_sem]
 ·simp [go_sem]
 ·simp [go_sem]
 ·simp [go_sem]
 rintro e u' w'' ⟨rfl,rfl,w2,hy,rfl⟩
 have hp2:(w2.cell? ⟨w.heap.size,0,none⟩).isSome=true:=by rw [hy.cell _ _ (by simp;omega)];simp [go_sem]
 have hq2:(w2.cell? ⟨w.heap.size+1,0,none⟩).isSome=true:=by rw [hy.cell _ _ (by simp)];simp [go_sem]
 obtain⟨vp,hp2⟩:=Option.isSome_iff_exists.1 hp2
 obtain⟨vq,hq2⟩:=Option.isSome_iff_exists.1 hq2
 have hx0:Ext w w2:=Ext.trans (by repeat (first | exact Ext.refl _ | apply Ext.alloc)) hy
 simp [Leaves,settle,results,Tryz.results190,go_sem,hp2,hq2]
 exact (hx0.setCell (Nat.le_refl _) _).setCell (by show w.heap.size≤w.heap.size+1;omega) _
theorem times_lo (v n lo:Int)(s:Bool)(w:World)
  (Hmul:Hid (∀ w,Calls Tryz.prog 219 #[.int .i64 v,.int .i64 n] w fun e w'=>e=.returned (.tuple #[.int .u64 0,.int .u64 lo,.bool s])∧w'=w))
  (v1:-1000000000000000≤v) (v2:v≤1000000000000000) (hh:decide (lo≤1000000000000000)=false) :
  Calls Tryz.prog 190 #[.int .i64 v,.int .i64 n] w fun e w'=>e=.returned (.tuple #[.int .i64 0,.int .i64 3])∧Ext w w':=by
 have hmf:=make_func
 go_enter_defers Tryz.func190,Tryz.ntmps190
 go_wp2_with fail
 refine (fitting_ok _ _ v1 v2).mono ?_
 rintro e w1 ⟨rfl,rfl⟩
 go_wp2_with fail
 refine (Hmul.out _).mono ?_
 rintro e w1 ⟨rfl,rfl⟩
 go_wp2_with fail
 refine (need_no _ _).mono ?_
 rintro e w1 ⟨rfl,rfl⟩
 go_wp2_with fail
 refine leaves_cons (f:=218) (args:=#[.pointer (some ⟨w.heap.size,0,none⟩),.pointer (some ⟨w.heap.size+1,0,none⟩)]) (by simp) (by simp [go_sem]) ?_
 refine (times_catch w.heap.size 3 0 0 [] _ ?_ ?_ ?_ ?_).mono ?_
 ·simp [go_sem]
 ·simp [go_sem]
 ·simp [go_sem]
 ·simp [go_sem]
 rintro e u' w'' ⟨rfl,rfl,w2,hy,rfl⟩
 have hp2:(w2.cell? ⟨w.heap.size,0,none⟩).isSome=true:=by rw [hy.cell _ _ (by simp;omega)];simp [go_sem]
 have hq2:(w2.cell? ⟨w.heap.size+1,0,none⟩).isSome=true:=by rw [hy.cell _ _ (by simp)];simp [go_sem]
 obtain⟨vp,hp2⟩:=Option.isSome_iff_exists.1 hp2
 obtain⟨vq,hq2⟩:=Option.isSome_iff_exists.1 hq2
 have hx0:Ext w w2:=Ext.trans (by repeat (first | exact Ext.refl _ | apply Ext.alloc)) hy
 simp [Leaves,settle,results,Tryz.results190,go_sem,hp2,hq2]
 exact (hx0.setCell (Nat.le_refl _) _).setCell (by show w.heap.size≤w.heap.size+1;omega) _
theorem times_ok (v n:Int)(w:World)(hv:Fit v)(hn:I64 n)(hN:mag v * mag n≤1000000000000000) :
  Calls Tryz.prog 190 #[.int .i64 v,.int .i64 n] w fun e w'=>e=.returned (.tuple #[.int .i64 (v * n),.int .i64 0])∧Ext w w':=by
 obtain⟨v1,v2⟩:=hv
 have hp:=prod_mag v n
 cases hs:sgn v n
 all_goals
  have HM:=multiply_hid v n ⟨by omega,by omega⟩ hn _ hs
  rw [hs] at hp
  rw [hp]
  clear hp
  generalize mag v * mag n=N at *
  have e1:hiW N=0:=by unfold hiW;omega
  have e2:loW N=N:=by unfold loW;omega
  rw [e1,e2] at HM
 ·exact times_false v n N w HM v1 v2 (by omega) (by omega)
 ·exact times_true v n N w HM v1 v2 (by omega) (by omega)
theorem times_no (v n:Int)(w:World)(hv:Fit v)(hn:I64 n)(hN:1000000000000000<mag v * mag n) :
  Calls Tryz.prog 190 #[.int .i64 v,.int .i64 n] w fun e w'=>e=.returned (.tuple #[.int .i64 0,.int .i64 3])∧Ext w w':=by
 obtain⟨v1,v2⟩:=hv
 have HM:=multiply_hid v n ⟨by omega,by omega⟩ hn _ rfl
 generalize mag v * mag n=N at *
 by_cases h0:hiW N=0
 ·have e2:loW N=N:=by unfold hiW at h0;unfold loW;omega
  rw [h0,e2] at HM
  exact times_lo v n N _ w HM v1 v2 (by simp;omega)
 ·exact times_hi v n _ _ _ w HM v1 v2 (by simp;omega)
end Go.Proofs.YtcijdkbopiaicaaGreatDoor.L2
namespace Go.Proofs.YtcijdkbopiaicaaGreatDoor.L2
open Go.Lib
theorem rev_ind {α:Type}{P:List α→Prop}(h0:P [])(h1:∀ t c,P t→P (t++[c]))(l:List α):P l:=by
 have:∀ m:List α,P m.reverse:=by
  intro m
  induction m with
  | nil=>exact h0
  | cons x t ih=>rw [List.reverse_cons];exact h1 _ _ ih
 simpa using this l.reverse
theorem dropWhile_nil {α:Type}(p:α→Bool):∀ l:List α,l.dropWhile p = [] ↔ ∀ x∈l,p x=true
 | []=>by simp
 | a::l=>by
  cases h:p a
  ·simp [List.dropWhile,h]
  ·simp [List.dropWhile,h,dropWhile_nil p l]
theorem dropWhile_head {α:Type}(p:α→Bool):∀ (l:List α) (x:α) (t:List α),l.dropWhile p=x::t→p x=false
 | [],x,t,h=>by simp at h
 | a::l,x,t,h=>by
  cases hp:p a
  ·simp [List.dropWhile,hp] at h;rw [←h.1];exact hp
  ·simp [List.dropWhile,hp] at h;exact dropWhile_head p l x t h
theorem dropWhile_sub {α:Type}(p:α→Bool):∀ (l:List α) (x:α),x∈l.dropWhile p→x∈l
 | [],x,h=>by simp at h
 | a::l,x,h=>by
  cases hp:p a
  ·simpa [List.dropWhile,hp] using h
  ·simp [List.dropWhile,hp] at h;exact List.mem_cons_of_mem _ (dropWhile_sub p l x h)
def dgt (n:Nat):UInt8:=UInt8.ofNat (48+n % 10)
def isD (c:UInt8):Bool:=decide (48≤c.toNat)&&decide (c.toNat≤57)
def valL (l:List UInt8):Nat:=l.foldl (fun a c=>10 * a+(c.toNat-48)) 0
def fix:Nat→Nat→List UInt8
 | 0,_=>[]
 | k+1,m=>fix k (m / 10)++[dgt m]
def digs:List UInt8:=[48,49,50,51,52,53,54,55,56,57]
theorem dgt_toNat (n:Nat):(dgt n).toNat=48+n % 10:=by
 unfold dgt;simp;omega
theorem isD_dgt (n:Nat):isD (dgt n)=true:=by
 unfold isD;rw [dgt_toNat];simp;omega
theorem isD_range {c:UInt8}(h:isD c=true):48≤c.toNat∧c.toNat≤57:=by
 unfold isD at h;simpa using h
theorem dgt_of {c:UInt8}(h:isD c=true)(n:Nat)(hn:n % 10=c.toNat-48):dgt n=c:=by
 have:=isD_range h
 apply UInt8.toNat_inj.mp
 rw [dgt_toNat];omega
theorem digs_contains (c:UInt8):digs.contains c=isD c:=by
 have:∀ n:Fin 256,digs.contains (UInt8.ofNat n.val)=isD (UInt8.ofNat n.val):=by decide +kernel
 have:=this ⟨c.toNat,UInt8.toNat_lt c⟩
 simpa using this
theorem valL_nil:valL []=0:=rfl
theorem valL_snoc (l:List UInt8)(c:UInt8):valL (l++[c])=10 * valL l+(c.toNat-48):=by
 simp [valL]
theorem foldl_val (l:List UInt8):∀ a,l.foldl (fun a c=>10 * a+(c.toNat-48)) a=a * 10 ^ l.length+valL l:=by
 induction l with
 | nil=>intro a;simp [valL]
 | cons x t ih =>
  intro a
  have h1:=ih (10 * a+(x.toNat-48))
  have h2:=ih (10 * 0+(x.toNat-48))
  simp only [valL,List.foldl_cons,List.length_cons] at *
  rw [h1,h2,Nat.pow_succ]
  simp only [Nat.mul_zero,Nat.zero_add,Nat.add_mul]
  have:10 * a * 10 ^ t.length=a * (10 ^ t.length * 10):=by
   rw [Nat.mul_comm 10 a,Nat.mul_assoc,Nat.mul_comm 10]
  omega
theorem valL_append (a b:List UInt8):valL (a++b)=valL a * 10 ^ b.length+valL b:=by
 have:=foldl_val b (valL a)
 rw [←this];simp [valL]
theorem valL_cons (x:UInt8)(t:List UInt8):valL (x::t)=(x.toNat-48) * 10 ^ t.length+valL t:=by
 have:=valL_append [x] t
 simpa [valL] using this
theorem valL_lt (l:List UInt8)(h:l.all isD=true):valL l<10 ^ l.length:=by
 induction l with
 | nil=>simp [valL]
 | cons x t ih =>
  simp only [List.all_cons,Bool.and_eq_true] at h
  have h1:=ih h.2
  have h2:=isD_range h.1
  rw [valL_cons,List.length_cons,Nat.pow_succ]
  have:(x.toNat-48) * 10 ^ t.length≤9 * 10 ^ t.length:=Nat.mul_le_mul_right _ (by omega)
  omega
theorem valL_zeros (k:Nat):valL (List.replicate k 48)=0:=by
 induction k with
 | zero=>rfl
 | succ k ih=>rw [List.replicate_succ,valL_cons,ih];simp
theorem fix_length (k:Nat):∀ m,(fix k m).length=k:=by
 induction k with
 | zero=>intro m;rfl
 | succ k ih=>intro m;simp [fix,ih]
theorem fix_all (k:Nat):∀ m,(fix k m).all isD=true:=by
 induction k with
 | zero=>intro m;rfl
 | succ k ih=>intro m;simp only [fix,List.all_append,ih,List.all_cons,List.all_nil,isD_dgt,Bool.and_self]
theorem valL_fix (k:Nat):∀ m,valL (fix k m)=m % 10 ^ k:=by
 induction k with
 | zero=>intro m;simp [fix,valL,Nat.mod_one]
 | succ k ih =>
  intro m
  rw [fix,valL_snoc,ih,dgt_toNat,Nat.pow_succ,Nat.mul_comm (10 ^ k) 10,Nat.mod_mul]
  omega
theorem decDigits_small {u:Nat}(h:u<10):decDigits u = [dgt u]:=by
 rw [decDigits,dif_pos h];unfold dgt;rw [Nat.mod_eq_of_lt h]
theorem decDigits_big {u:Nat}(h:¬ u<10):decDigits u=decDigits (u / 10)++[dgt u]:=by
 rw [decDigits,dif_neg h];rfl
theorem decDigits_all (u:Nat):(decDigits u).all isD=true:=by
 induction u using Nat.strongRecOn with
 | ind u ih =>
  by_cases h:u<10
  ·rw [decDigits_small h];simp only [List.all_cons,List.all_nil,isD_dgt,Bool.and_self]
  ·rw [decDigits_big h,List.all_append,ih _ (by omega)];simp only [List.all_cons,List.all_nil,isD_dgt,Bool.and_self]
theorem valL_decDigits (u:Nat):valL (decDigits u)=u:=by
 induction u using Nat.strongRecOn with
 | ind u ih =>
  by_cases h:u<10
  ·rw [decDigits_small h];simp [valL,dgt_toNat];omega
  ·rw [decDigits_big h,valL_snoc,ih _ (by omega),dgt_toNat];omega
theorem decDigits_ne (u:Nat):decDigits u≠[]:=by
 by_cases h:u<10
 ·rw [decDigits_small h];simp
 ·rw [decDigits_big h];simp
theorem decDigits_head (u:Nat):decDigits u = [48]∨(decDigits u).head?≠some 48:=by
 induction u using Nat.strongRecOn with
 | ind u ih =>
  by_cases h:u<10
  ·rw [decDigits_small h]
   by_cases h0:u=0
   ·left;subst h0;rfl
   ·right
    intro e
    have:dgt u=48:=by simpa using e
    have:=congrArg UInt8.toNat this
    rw [dgt_toNat] at this
    have h48:(48:UInt8).toNat=48:=rfl
    omega
  ·rw [decDigits_big h]
   right
   rcases ih (u / 10) (by omega) with k | k
   ·have:=congrArg valL k
    rw [valL_decDigits] at this
    have:valL [48]=0:=rfl
    omega
   ·rw [List.head?_append];cases hd:decDigits (u / 10) with
    | nil=>exact absurd hd (decDigits_ne _)
    | cons a b=>rw [hd] at k;simpa using k
theorem decDigits_valL (l:List UInt8)(hne:l≠[])(h:l.all isD=true)(h0:l = [48]∨l.head?≠some 48):decDigits (valL l)=l:=by
 revert hne h h0
 refine rev_ind (P:=fun l=>l≠[]→l.all isD=true→(l = [48]∨l.head?≠some 48)→decDigits (valL l)=l) ?_ ?_ l
 ·intro hne;exact absurd rfl hne
 ·intro t c ih hne h h0
  rw [valL_snoc]
  rw [List.all_append,Bool.and_eq_true] at h
  have hc:isD c=true:=by simpa using h.2
  have hr:=isD_range hc
  cases t with
  | nil =>
   simp only [valL_nil,Nat.mul_zero,Nat.zero_add,List.nil_append]
   rw [decDigits_small (by omega),dgt_of hc _ (by omega)]
  | cons a b =>
   have hh:(a::b).head?≠some 48:=by
    rcases h0 with k | k
    ·simp at k
    ·simpa using k
   have ih:=ih (by simp) h.1 (Or.inr hh)
   have ha:isD a=true:=by have:=h.1;simp at this;exact this.1
   have hpos:1≤valL (a::b):=by
    rw [valL_cons]
    have:1≤a.toNat-48:=by
     have:=isD_range ha
     have:a.toNat≠48:=fun e=>hh (by simp;exact UInt8.toNat_inj.mp e)
     omega
    have:1 * 1≤(a.toNat-48) * 10 ^ b.length:=Nat.mul_le_mul this (Nat.pos_of_ne_zero (by simp))
    omega
   rw [decDigits_big (by omega),show (10 * valL (a::b)+(c.toNat-48)) / 10=valL (a::b) by omega,ih,dgt_of hc _ (by omega)]
theorem fix_valL (l:List UInt8)(h:l.all isD=true):∀ x,fix l.length (x * 10 ^ l.length+valL l)=l:=by
 revert h
 refine rev_ind (P:=fun l=>l.all isD=true→∀ x,fix l.length (x * 10 ^ l.length+valL l)=l) ?_ ?_ l
 ·intro _ x;rfl
 ·intro t c ih h x
  rw [List.all_append,Bool.and_eq_true] at h
  have hc:isD c=true:=by simpa using h.2
  have hr:=isD_range hc
  rw [List.length_append,List.length_singleton,fix,valL_snoc,Nat.pow_succ]
  have e:x * (10 ^ t.length * 10)+(10 * valL t+(c.toNat-48))=10 * (x * 10 ^ t.length+valL t)+(c.toNat-48):=by
   rw [←Nat.mul_assoc];omega
  rw [e,show (10 * (x * 10 ^ t.length+valL t)+(c.toNat-48)) / 10=x * 10 ^ t.length+valL t by omega,ih h.1,dgt_of hc _ (by omega)]
theorem all_mem {l:List UInt8}(h:l.all isD=true){c:UInt8}(hc:c∈l):isD c=true:=List.all_eq_true.mp h c hc
theorem trimS_digs (l:List UInt8):(trimS l digs = []) ↔ l.all isD=true:=by
 unfold trimS trimLeftS
 rw [dropWhile_nil]
 simp only [digs_contains]
 constructor
 ·intro h
  rw [List.all_eq_true]
  intro x hx
  have hn:List.dropWhile (digs.contains ·) l.reverse = []:=by
   cases hd:List.dropWhile (digs.contains ·) l.reverse with
   | nil=>rfl
   | cons a b =>
    have h1:=dropWhile_head _ _ _ _ hd
    have h2:=h a (by unfold trimRightS;rw [hd];simp)
    rw [digs_contains,h2] at h1;cases h1
  rw [dropWhile_nil] at hn
  have:=hn x (by simpa using hx)
  rwa [digs_contains] at this
 ·intro h x hx
  have:x∈l:=by
   unfold trimRightS at hx
   have:=dropWhile_sub _ _ _ (List.mem_reverse.mp hx)
   simpa using this
  exact all_mem h this
end Go.Proofs.YtcijdkbopiaicaaGreatDoor.L2
namespace Go.Proofs.YtcijdkbopiaicaaGreatDoor.L2
open Go.RowKit Go.Lib
def Env (w:World):Prop:=(∃ m,w.cell? ⟨0,0,none⟩=some (.int .i64 m))∧Lib.TabIs Tryz.prog w "internal/strconv.uint64pow10" .u64 Lib.pow10Tab
theorem Env.ext {w w':World}(h:Env w)(hx:Ext w w'):Env w':=by
 obtain⟨⟨m,hm⟩,ht⟩:=h
 refine⟨⟨m,by rw [hx.cell 0 0 (lt_of_cell hm)];exact hm⟩,?_⟩
 unfold Lib.TabIs World.var? at *
 cases hg:Tryz.prog.globalNamed "internal/strconv.uint64pow10" with
 | none=>simp [hg] at ht
 | some g =>
  simp only [hg,Option.bind_some] at ht ⊢
  have hlt:g<w.heap.size:=by
   rcases Nat.lt_or_ge g w.heap.size with h' | h'
   ·exact h'
   ·rw [Array.getElem?_eq_none h'] at ht;simp at ht
  rw [hx.below.block g hlt]
  exact ht
theorem cutPrefix_c (l p:List UInt8)(w:World) :
  Calls Tryz.prog 186 #[.string ⟨l.toArray⟩,.string ⟨p.toArray⟩] w fun e w'=>e=.returned (.tuple #[.string ⟨(trimPrefix l p).toArray⟩,.bool (hasPrefix l p)])∧w'=w :=
 Tryz.strings_CutPrefix ⟨l.toArray⟩ ⟨p.toArray⟩ w
def cutL (l:List UInt8):List UInt8:=if hasPrefix l [45] then [45] else []
theorem cutSign_c (l:List UInt8)(w:World) :
  Calls Tryz.prog 155 #[.string ⟨l.toArray⟩] w fun e w'=>e=.returned (.tuple #[.string ⟨(cutL l).toArray⟩,.string ⟨(trimPrefix l [45]).toArray⟩])∧w'=w:=by
 unfold cutL
 cases h:hasPrefix l [45]
 ·have h2:trimPrefix l [45]=l:=by unfold trimPrefix;rw [h];rfl
  rw [h2]
  go_enter Tryz.func155,Tryz.ntmps155
  go_wp2_with fail
  refine (cutPrefix_c _ _ _).mono ?_
  rintro e w1 ⟨rfl,rfl⟩
  rw [h]
  go_wp2
  go_ret2
  exact⟨rfl,rfl⟩
 ·go_enter Tryz.func155,Tryz.ntmps155
  go_wp2_with fail
  refine (cutPrefix_c _ _ _).mono ?_
  rintro e w1 ⟨rfl,rfl⟩
  rw [h]
  go_wp2
  go_ret2
  exact⟨rfl,rfl⟩
def zeros (n:Nat):List UInt8:=List.replicate n 48
@[go_sem] theorem app_mk (a b:List UInt8):(⟨a.toArray⟩:ByteArray)++(⟨b.toArray⟩:ByteArray)=⟨(a++b).toArray⟩:=by
 apply ByteArray.ext
 simp
theorem noughts_c (n:Int)(w:World)(hn:n≤100)(hn0:-100≤n) :
  Calls Tryz.prog 160 #[.int .i64 n] w fun e w'=>e=.returned (.string ⟨(zeros n.toNat).toArray⟩)∧Ext w w':=by
 have hr:∀ (c:Nat) (w:World),c≤100→Calls Tryz.prog 192 #[.string ⟨#[48]⟩,.int .i64 c] w fun e w'=>e=.returned (.string ⟨(zeros c).toArray⟩)∧Ext w w':=by
  intro c w hc
  refine (Tryz.strings_Repeat ⟨#[48]⟩ c w (by omega) (by simp [ByteArray.size];omega)).mono ?_
  rintro e w' ⟨rfl,hb⟩
  refine⟨?_,⟨hb⟩⟩
  have:=Lib.repeatL_replicate 48 1 c
  rw [Nat.mul_one] at this
  unfold zeros
  rw [←this];rfl
 have hr:=hid hr
 by_cases h:0≤n
 ·obtain ⟨c,rfl⟩:=Int.eq_ofNat_of_zero_le h
  go_enter Tryz.func160,Tryz.ntmps160
  go_wp2_with fail
  refine (hr.out c _ (by omega)).mono ?_
  rintro e w1 ⟨rfl,hx⟩
  go_wp2
  go_ret
  exact⟨rfl,hx⟩
 ·have e0:n.toNat=0:=by omega
  rw [e0]
  go_enter Tryz.func160,Tryz.ntmps160
  go_wp2_with fail
  rw [show max n 0=0 by omega]
  refine (hr.out 0 _ (by omega)).mono ?_
  rintro e w1 ⟨rfl,hx⟩
  go_wp2
  go_ret
  exact⟨rfl,hx⟩
def signL (v:Int):List UInt8:=if v<0 then [45] else []
theorem digit_not {l:List UInt8}(h:l.all isD=true)(c:UInt8)(hc:isD c=false)(t:List UInt8)(hl:l≠[]):hasPrefix (l++t) [c]=false:=by
 cases l with
 | nil=>exact absurd rfl hl
 | cons a b =>
  have ha:isD a=true:=by simp at h;exact h.1
  have:a≠c:=fun e=>by rw [e,hc] at ha;cases ha
  simp [hasPrefix,List.isPrefixOf]
  exact fun e=>absurd e.symm this
def moneyL (v:Int):List UInt8:=signL v++(decDigits (v.natAbs / 100)++46::fix 2 v.natAbs)
theorem dec_len (v:Int)(h:I64 v)(k:Nat):(signL v).length≤1∧(decDigits (v.natAbs / k)).length≤20:=by
 constructor
 ·unfold signL;split <;> simp
 ·rw [Lib.decDigits_length]
  apply Lib.nDigits_le20
  have:=Nat.div_le_self v.natAbs k
  have:=h.1;have:=h.2;omega
def tailL (u:Nat):List UInt8:=trimRightB (fix 7 u) 48
def dotL (p:List UInt8):List UInt8:=if p.isEmpty then [] else 46::p
def rateL (v:Int):List UInt8:=signL v++(decDigits (v.natAbs / 10000000)++(dotL (tailL v.natAbs)++[37]))
theorem trimRightB_le (l:List UInt8)(c:UInt8):(trimRightB l c).length≤l.length:=by
 unfold trimRightB
 rw [List.length_reverse]
 have:∀ m:List UInt8,(m.dropWhile (·==c)).length≤m.length:=by
  intro m
  induction m with
  | nil=>simp
  | cons a b ih =>
   simp only [List.dropWhile]
   split
   ·simp;omega
   ·simp
 have:=this l.reverse
 simpa using this
def digOnly (l:List UInt8):Bool:=!l.isEmpty&&l.all isD
theorem trim_c (l:List UInt8)(w:World)(hl:l.length≤20000) :
  Calls Tryz.prog 187 #[.string ⟨l.toArray⟩,.string ⟨#[48,49,50,51,52,53,54,55,56,57]⟩] w fun e w'=>e=.returned (.string ⟨(trimS l digs).toArray⟩)∧Ext w w':=by
 refine (Tryz.strings_Trim ⟨l.toArray⟩ ⟨#[48,49,50,51,52,53,54,55,56,57]⟩ w (by rw [Lib.size_mk];omega) (by decide) (by
  have:∀ j:Fin 10,(([48,49,50,51,52,53,54,55,56,57]:List UInt8)[j.val]).toNat<128:=by decide
  intro j b hb
  have hj:j<10:=by
   have:=(List.getElem?_eq_some_iff.mp hb).1
   simpa using this
  have h2:=this ⟨j,hj⟩
  have h3:=(List.getElem?_eq_some_iff.mp hb).2
  rw [←h3];exact h2)).mono ?_
 rintro e w' ⟨rfl,hb⟩
 exact⟨rfl,⟨hb⟩⟩
theorem digitsOnly_c (l:List UInt8)(w:World)(hl:l.length≤20000) :
  Calls Tryz.prog 157 #[.string ⟨l.toArray⟩] w fun e w'=>e=.returned (.bool (digOnly l))∧Ext w w':=by
 cases l with
 | nil =>
  go_enter Tryz.func157,Tryz.ntmps157
  go_wp2
  go_ret
  exact⟨rfl,Ext.refl _⟩
 | cons a b =>
  have ht:=trimS_digs (a::b)
  have hd:digOnly (a::b)=(a::b).all isD:=rfl
  rw [hd]
  cases htr:trimS (a::b) digs with
  | nil =>
   rw [ht.mp htr]
   clear ht hd
   go_enter Tryz.func157,Tryz.ntmps157
   go_wp2_with fail
   refine (trim_c _ _ hl).mono ?_
   rintro e w1 ⟨rfl,hx⟩
   rw [htr]
   go_wp2
   go_ret
   exact⟨rfl,hx⟩
  | cons x y =>
   have hf:(a::b).all isD=false:=by
    cases hh:(a::b).all isD
    ·rfl
    ·rw [ht.mpr hh] at htr;cases htr
   rw [hf]
   clear ht hd hf
   go_enter Tryz.func157,Tryz.ntmps157
   go_wp2_with fail
   refine (trim_c _ _ hl).mono ?_
   rintro e w1 ⟨rfl,hx⟩
   rw [htr]
   go_wp2
   go_ret
   exact⟨rfl,hx⟩
theorem needForm_ok (w:World):Calls Tryz.prog 154 #[.bool true] w fun e w'=>e=.returned (.tuple #[])∧w'=w:=by
 go_enter Tryz.func154,Tryz.ntmps154
 go_wp2_with fail
 refine (need_ok _ _).mono ?_
 rintro e w1 ⟨rfl,rfl⟩
 go_wp2
 go_end0
 exact⟨rfl,rfl⟩
theorem needForm_no (w:World):Calls Tryz.prog 154 #[.bool false] w fun e w'=>e=.panicked [{ v:=.iface 28 (.int .i64 4),recovered:=false }]∧w'=w:=by
 go_enter Tryz.func154,Tryz.ntmps154
 go_wp2_with fail
 refine (need_no _ _).mono ?_
 rintro e w1 ⟨rfl,rfl⟩
 go_wp2
 exact⟨rfl,rfl,rfl⟩
def headOk (l:List UInt8):Bool:=l==[48]||l.head? != some 48
def okWhole (l:List UInt8)(m:Nat):Bool:=decide (l.length≤m)&&digOnly l&&headOk l
theorem headOk_cases (a:UInt8)(b:List UInt8):headOk (a::b)=true ↔ (b = []∨a≠48):=by
 unfold headOk
 by_cases h:a=48
 ·subst h
  cases b <;> simp
 ·simp [h]
@[go_sem] theorem idx0 (a:UInt8)(b:List UInt8)(h:0<(⟨(a::b).toArray⟩:ByteArray).size):(⟨(a::b).toArray⟩:ByteArray)[0]'h=a:=rfl
theorem needWhole_ok (l:List UInt8)(m:Nat)(w:World)(hl:l.length≤20000)(hm:m≤100)(h:okWhole l m=true) :
  Calls Tryz.prog 156 #[.string ⟨l.toArray⟩,.int .i64 m] w fun e w'=>e=.returned (.tuple #[])∧Ext w w':=by
 unfold okWhole at h
 simp only [Bool.and_eq_true,decide_eq_true_eq] at h
 obtain⟨⟨h1,h2⟩,h3⟩:=h
 have hd:=hid h2
 clear h2
 cases l with
 | nil=>cases hd.out
 | cons a b =>
  have h4:=(headOk_cases a b).mp h3
  clear h3
  have h1':(b.length:Int)+1≤(m:Int):=by simp at h1;omega
  have hl1:b.length+1≤m:=by simpa using h1
  by_cases ha:a=48
  ·subst ha
   have hb:b = []:=by
    rcases h4 with k | k
    ·exact k
    ·exact absurd rfl k
   subst hb
   clear h4
   go_enter Tryz.func156,Tryz.ntmps156
   go_wp2_with fail
   refine (digitsOnly_c _ _ hl).mono ?_
   rintro e w1 ⟨rfl,hx⟩
   rw [hd.out]
   go_wp2_with fail
   refine (needForm_ok _).mono ?_
   rintro e w2 ⟨rfl,rfl⟩
   go_wp2_with fail
   refine (needForm_ok _).mono ?_
   rintro e w2 ⟨rfl,rfl⟩
   go_wp2
   go_end0
   exact⟨rfl,hx⟩
  ·have hne:(a==48)=false:=by simpa using ha
   have ha2:a.toNat≠48:=fun e=>ha (UInt8.toNat_inj.mp e)
   have hne2:((a.toNat:Int) != 48)=true:=by
    simp
    exact fun e=>ha2 (by omega)
   clear h4 ha2
   go_enter Tryz.func156,Tryz.ntmps156
   go_wp2_with fail
   refine (digitsOnly_c _ _ hl).mono ?_
   rintro e w1 ⟨rfl,hx⟩
   rw [hd.out]
   go_wp2_with fail
   refine (needForm_ok _).mono ?_
   rintro e w2 ⟨rfl,rfl⟩
   go_wp2_with fail
   refine (needForm_ok _).mono ?_
   rintro e w2 ⟨rfl,rfl⟩
   go_wp2
   go_end0
   exact⟨rfl,hx⟩
theorem needWhole_no (l:List UInt8)(m:Nat)(w:World)(hl:l.length≤20000)(hm:m≤100)(h:okWhole l m=false) :
  Calls Tryz.prog 156 #[.string ⟨l.toArray⟩,.int .i64 m] w fun e w'=>e=.panicked [{ v:=.iface 28 (.int .i64 4),recovered:=false }]∧Ext w w':=by
 unfold okWhole at h
 by_cases h1:l.length≤m
 ·have h1':(l.length:Int)≤(m:Int):=by omega
  cases hd:digOnly l
  ·have hd:=hid hd
   clear h
   go_enter Tryz.func156,Tryz.ntmps156
   go_wp2_with fail
   refine (digitsOnly_c _ _ hl).mono ?_
   rintro e w1 ⟨rfl,hx⟩
   rw [hd.out]
   go_wp2_with fail
   refine (needForm_no _).mono ?_
   rintro e w2 ⟨rfl,rfl⟩
   go_wp2
   exact⟨rfl,rfl,hx⟩
  ·have h3:headOk l=false:=by
    rw [hd] at h
    simpa [h1] using h
   cases l with
   | nil=>cases hd
   | cons a b =>
    have h4:¬ (b = []∨a≠48):=fun k=>by rw [(headOk_cases a b).mpr k] at h3;cases h3
    have ha:a=48:=by
     by_cases k:a=48
     ·exact k
     ·exact absurd (Or.inr k) h4
    subst ha
    have hb:b≠[]:=fun k=>h4 (Or.inl k)
    cases b with
    | nil=>exact absurd rfl hb
    | cons x y =>
     have hd:=hid hd
     clear h h3 h4 hb
     have h1'':(y.length:Int)+1+1≤(m:Int):=by simp at h1';omega
     clear h1 h1'
     go_enter Tryz.func156,Tryz.ntmps156
     go_wp2_with fail
     refine (digitsOnly_c _ _ hl).mono ?_
     rintro e w1 ⟨rfl,hx⟩
     rw [hd.out]
     go_wp2_with fail
     refine (needForm_ok _).mono ?_
     rintro e w2 ⟨rfl,rfl⟩
     go_wp2_with fail
     refine (needForm_no _).mono ?_
     rintro e w2 ⟨rfl,rfl⟩
     go_wp2
     exact⟨rfl,rfl,hx⟩
 ·have h1':¬ (l.length:Int)≤(m:Int):=by omega
  clear h
  go_enter Tryz.func156,Tryz.ntmps156
  go_wp2_with fail
  refine (needForm_no _).mono ?_
  rintro e w2 ⟨rfl,rfl⟩
  go_wp2
  exact⟨rfl,rfl,Ext.refl _⟩
theorem signed_pos (n:Int)(w:World) :
  Calls Tryz.prog 161 #[.string ⟨#[]⟩,.int .i64 n] w fun e w'=>e=.returned (.int .i64 n)∧w'=w:=by
 go_enter Tryz.func161,Tryz.ntmps161
 go_wp2
 go_ret
 exact⟨rfl,rfl⟩
theorem signed_neg (n:Int)(w:World)(h0:0<n)(h1:n≤1000000000000000) :
  Calls Tryz.prog 161 #[.string ⟨#[45]⟩,.int .i64 n] w fun e w'=>e=.returned (.int .i64 (-n))∧w'=w:=by
 have hne:(n != 0)=true:=by simp;omega
 have hw:wrap64 (-n) = -n:=by unfold wrap64;omega
 go_enter Tryz.func161,Tryz.ntmps161
 go_wp2_with fail
 refine (needForm_ok _).mono ?_
 rintro e w2 ⟨rfl,rfl⟩
 go_wp2
 go_ret
 exact⟨rfl,rfl⟩
theorem signed_nil (w:World) :
  Calls Tryz.prog 161 #[.string ⟨#[45]⟩,.int .i64 0] w fun e w'=>e=.panicked [{ v:=.iface 28 (.int .i64 4),recovered:=false }]∧w'=w:=by
 go_enter Tryz.func161,Tryz.ntmps161
 go_wp2_with fail
 refine (needForm_no _).mono ?_
 rintro e w2 ⟨rfl,rfl⟩
 go_wp2
 exact⟨rfl,rfl,rfl⟩
theorem sure_ok (n:Int)(w:World) :
  Calls Tryz.prog 189 #[.int .i64 n,.int .i64 0] w fun e w'=>e=.returned (.int .i64 n)∧w'=w:=by
 go_enter Tryz.func189,Tryz.ntmps189
 go_wp2_with fail
 refine (need_ok _ _).mono ?_
 rintro e w2 ⟨rfl,rfl⟩
 go_wp2
 go_ret
 exact⟨rfl,rfl⟩
theorem sure_no (w:World) :
  Calls Tryz.prog 189 #[.int .i64 0,.int .i64 3] w fun e w'=>e=.panicked [{ v:=.iface 28 (.int .i64 3),recovered:=false }]∧w'=w:=by
 go_enter Tryz.func189,Tryz.ntmps189
 go_wp2_with fail
 refine (need_no _ _).mono ?_
 rintro e w2 ⟨rfl,rfl⟩
 go_wp2
 exact⟨rfl,rfl,rfl⟩
def cutD:List UInt8→List UInt8×List UInt8×Bool
 | []=>([],[],false)
 | x::t=>if x=46 then ([],t,true) else (x::(cutD t).1,(cutD t).2.1,(cutD t).2.2)
theorem index_dot (x:UInt8)(t:List UInt8):index (x::t) [46]=if x=46 then 0 else if index t [46]==-1 then -1 else index t [46]+1:=by
 rw [index]
 by_cases h:x=46
 ·subst h;simp [List.isPrefixOf]
 ·have:([46]:List UInt8).isPrefixOf (x::t)=false:=by
   simp [List.isPrefixOf];exact fun e=>h e.symm
  rw [this];simp [h]
theorem cut_dot:∀ l,cut l [46]=cutD l
 | []=>by simp [cut,cutD,index]
 | x::t=>by
  have ih:=cut_dot t
  unfold cut at ih ⊢
  rw [index_dot]
  unfold cutD
  by_cases h:x=46
  ·simp [h]
  ·simp only [h,if_false]
   rw [←ih]
   have hg:=index_ge t [46]
   by_cases h1:index t [46] = -1
   ·simp [h1]
   ·have h2:0≤index t [46]:=by omega
    have h3:0≤index t [46]+1:=by omega
    have h4:(index t [46]==-1)=false:=by simpa using h1
    have h5:(index t [46]+1).toNat=(index t [46]).toNat+1:=by omega
    simp [h4,h2,h3,h5]
theorem cutD_none:∀ l:List UInt8,(46:UInt8) ∉ l→cutD l=(l,[],false)
 | [],_=>rfl
 | x::t,h=>by
  have h1:x≠46:=fun e=>h (by rw [e];simp)
  have h2:(46:UInt8) ∉ t:=fun e=>h (List.mem_cons_of_mem _ e)
  simp [cutD,h1,cutD_none t h2]
theorem cutD_hit:∀ (a b:List UInt8),(46:UInt8) ∉ a→cutD (a++46::b)=(a,b,true)
 | [],b,_=>by simp [cutD]
 | x::t,b,h=>by
  have h1:x≠46:=fun e=>h (by rw [e];simp)
  have h2:(46:UInt8) ∉ t:=fun e=>h (List.mem_cons_of_mem _ e)
  simp [cutD,h1,cutD_hit t b h2]
theorem cutD_join:∀ (l W P:List UInt8) (B:Bool),cutD l=(W,P,B)→(46:UInt8) ∉ W∧(B=true→l=W++46::P)∧(B=false→l=W∧P = [])
 | [],W,P,B,h=>by
  simp [cutD] at h;obtain ⟨rfl,rfl,rfl⟩:=h;simp
 | x::t,W,P,B,h=>by
  by_cases h1:x=46
  ·simp [cutD,h1] at h;obtain ⟨rfl,rfl,rfl⟩:=h;simp [h1]
  ·simp [cutD,h1] at h
   obtain⟨rfl,rfl,rfl⟩:=h
   obtain⟨i1,i2,i3⟩:=cutD_join t (cutD t).1 (cutD t).2.1 (cutD t).2.2 rfl
   refine⟨?_,?_,?_⟩
   ·simp;exact ⟨fun e=>h1 e.symm,i1⟩
   ·intro hb;have:=i2 hb;simp;exact this
   ·intro hb;obtain ⟨e1,e2⟩:=i3 hb;exact ⟨by simp;exact e1,e2⟩
theorem cutD_len (l W P:List UInt8)(B:Bool)(h:cutD l=(W,P,B)):W.length≤l.length∧P.length≤l.length:=by
 obtain⟨_,h2,h3⟩:=cutD_join l W P B h
 cases B
 ·obtain ⟨rfl,rfl⟩:=h3 rfl;simp
 ·have:=h2 rfl;subst this;simp;omega
theorem dot_not {l:List UInt8}(h:l.all isD=true):(46:UInt8) ∉ l:=fun e=>by
 have:=all_mem h e
 revert this;decide
def sgnV (neg:Bool)(n:Nat):Int×Int:=if neg then (if n=0 then (0,4) else (-(n:Int),0)) else ((n:Int),0)
def takeM (l:List UInt8):Int×Int :=
 let c:=cutD (trimPrefix l [45])
 if okWhole c.1 20&&(decide (c.2.1.length=2)&&digOnly c.2.1) then
  if valL (c.1++c.2.1)≤1000000000000000 then sgnV (hasPrefix l [45]) (valL (c.1++c.2.1)) else (0,3)
 else (0,4)
def takeR (l:List UInt8):Int×Int :=
 let p:=trimSuffix l [37]
 let c:=cutD (trimPrefix p [45])
 if hasSuffix l [37]&&okWhole c.1 4&&(!c.2.2||(decide (c.2.1.length≤7)&&digOnly c.2.1&&!hasSuffix c.2.1 [48])) then
  let n:=valL (c.1++(c.2.1++zeros (7-c.2.1.length)))
  if n≤10000000000 then sgnV (hasPrefix p [45]) n else (0,4)
 else (0,4)
theorem okWhole_spec (W:List UInt8)(m:Nat)(h:okWhole W m=true):W.length≤m∧W≠[]∧W.all isD=true∧(W = [48]∨W.head?≠some 48):=by
 unfold okWhole digOnly headOk at h
 simp only [Bool.and_eq_true,decide_eq_true_eq,Bool.or_eq_true,beq_iff_eq,bne_iff_ne,Bool.not_eq_true'] at h
 obtain⟨⟨h1,h2,h3⟩,h4⟩:=h
 exact⟨h1,(by intro e;rw [e] at h2;cases h2),h3,h4⟩
theorem okWhole_dec (u m:Nat)(h:(decDigits u).length≤m):okWhole (decDigits u) m=true:=by
 unfold okWhole digOnly headOk
 have h1:=decDigits_ne u
 have h2:=decDigits_all u
 have h3:=decDigits_head u
 simp only [Bool.and_eq_true,decide_eq_true_eq,Bool.or_eq_true,beq_iff_eq,bne_iff_ne,Bool.not_eq_true']
 exact⟨⟨h,by cases hd:decDigits u with
  | nil=>exact absurd hd h1
  | cons a b=>rfl,h2⟩,h3⟩
theorem zeros_len (k:Nat):(zeros k).length=k:=List.length_replicate
theorem zeros_all (k:Nat):(zeros k).all isD=true:=by
 unfold zeros;rw [List.all_eq_true];intro x hx
 rw [List.eq_of_mem_replicate hx];decide
theorem valL_zeros' (k:Nat):valL (zeros k)=0:=valL_zeros k
theorem trim_sign (v:Int)(t:List UInt8)(ht:hasPrefix t [45]=false):trimPrefix (signL v++t) [45]=t∧hasPrefix (signL v++t) [45]=decide (v<0):=by
 unfold signL trimPrefix
 by_cases h:v<0
 ·simp [h,hasPrefix,List.isPrefixOf]
 ·simp [h,ht]
theorem sgnV_of (v:Int)(n:Nat)(h:v.natAbs=n):sgnV (decide (v<0)) n=(v,0):=by
 unfold sgnV
 by_cases hv:v<0
 ·simp only [hv,decide_true,if_true]
  rw [if_neg (by omega)]
  exact Prod.ext (by show -(n:Int)=v;omega) rfl
 ·simp only [hv,decide_false,Bool.false_eq_true,if_false]
  exact Prod.ext (by show (n:Int)=v;omega) rfl
theorem sgnV_ok {neg:Bool}{n:Nat}{c:Int}(h:sgnV neg n=(c,0)):c.natAbs=n∧(neg=decide (c<0)):=by
 unfold sgnV at h
 cases neg
 ·simp at h
  exact⟨by omega,by simp;omega⟩
 ·simp at h
  split at h
  ·simp at h
  ·simp at h
   exact⟨by omega,by simp;omega⟩
theorem sign_join (l r:List UInt8)(c:Int)(h1:trimPrefix l [45]=r)(h2:hasPrefix l [45]=decide (c<0)):l=signL c++r:=by
 unfold trimPrefix at h1
 unfold signL
 by_cases hc:c<0
 ·rw [h2] at h1
  simp [hc] at h1 h2
  simp [hc]
  cases l with
  | nil=>simp [hasPrefix,List.isPrefixOf] at h2
  | cons a b =>
   simp [hasPrefix,List.isPrefixOf] at h2
   simp at h1
   rw [←h2,←h1]
 ·rw [h2] at h1
  simp [hc] at h1
  simp [hc,h1]
theorem money_take (l:List UInt8)(c:Int)(h:takeM l=(c,0)):moneyL c=l:=by
 unfold takeM at h
 simp only at h
 split at h
 ·rename_i hc
  split at h
  ·obtain ⟨k1,k2⟩:=sgnV_ok h
   simp only [Bool.and_eq_true,decide_eq_true_eq] at hc
   obtain⟨hw,hl,hd⟩:=hc
   rcases hcd:cutD (trimPrefix l [45]) with ⟨W,P,B⟩
   rw [hcd] at hw hl hd k1
   simp only at hw hl hd k1
   obtain⟨_,w2,w3,w4⟩:=okWhole_spec W 20 hw
   have hP:P.all isD=true:=by unfold digOnly at hd;simp only [Bool.and_eq_true] at hd;exact hd.2
   obtain⟨_,j1,j2⟩:=cutD_join _ _ _ _ hcd
   have hB:B=true:=by
    cases B
    ·have:=(j2 rfl).2;rw [this] at hl;cases hl
    ·rfl
   have hr:=j1 hB
   rw [sign_join l _ c rfl k2,hr]
   unfold moneyL
   rw [k1,valL_append,hl]
   have hv2:=valL_lt P hP
   rw [hl] at hv2
   have e1:(valL W * 10 ^ 2+valL P) / 100=valL W:=by omega
   have e2:fix 2 (valL W * 10 ^ 2+valL P)=P:=by have:=fix_valL P hP (valL W);rw [hl] at this;exact this
   rw [e1,e2,decDigits_valL W w2 w3 w4]
  ·simp at h
 ·simp at h
theorem trimRightB_snoc (l:List UInt8)(x:UInt8):trimRightB (l++[x]) 48=if x=48 then trimRightB l 48 else l++[x]:=by
 unfold trimRightB
 rw [List.reverse_append]
 by_cases h:x=48
 ·subst h;simp
 ·have:(x==48)=false:=by simpa using h
  simp [this,h]
theorem hasSuffix_snoc (l:List UInt8)(x c:UInt8):hasSuffix (l++[x]) [c]=decide (x=c):=by
 rw [←hasSuffix_of_drop]
 by_cases h:x=c
 ·subst h;simp
 ·simp [h]
theorem trim_spec:∀ l:List UInt8,∃ k,l=trimRightB l 48++zeros k∧hasSuffix (trimRightB l 48) [48]=false:=by
 intro l
 refine rev_ind (P:=fun l=>∃ k,l=trimRightB l 48++zeros k∧hasSuffix (trimRightB l 48) [48]=false) ?_ ?_ l
 ·exact ⟨0,rfl,rfl⟩
 ·intro t x ⟨k,h1,h2⟩
  rw [trimRightB_snoc]
  by_cases h:x=48
  ·subst h
   refine⟨k+1,?_,by simpa using h2⟩
   simp only [if_true]
   unfold zeros at *
   rw [List.replicate_succ',←List.append_assoc,←h1]
  ·refine ⟨0,by simp [h,zeros],?_⟩
   simp only [h,if_false]
   rw [hasSuffix_snoc];simpa using h
theorem trim_zeros (P:List UInt8)(h:hasSuffix P [48]=false):∀ k,trimRightB (P++zeros k) 48=P:=by
 intro k
 induction k with
 | zero =>
  simp only [zeros,List.replicate_zero,List.append_nil]
  revert h
  refine rev_ind (P:=fun P=>hasSuffix P [48]=false→trimRightB P 48=P) ?_ ?_ P
  ·intro _;rfl
  ·intro t x _ h
   rw [hasSuffix_snoc] at h
   rw [trimRightB_snoc,if_neg (by simpa using h)]
 | succ k ih =>
  unfold zeros at *
  rw [List.replicate_succ',←List.append_assoc,trimRightB_snoc]
  simpa using ih
theorem trim_tail (l:List UInt8)(x:UInt8):trimSuffix (l++[x]) [x]=l∧hasSuffix (l++[x]) [x]=true:=by
 have:=hasSuffix_snoc l x x
 simp at this
 unfold trimSuffix
 rw [this]
 simp
theorem suffix_join (l p:List UInt8)(x:UInt8)(h1:trimSuffix l [x]=p)(h2:hasSuffix l [x]=true):l=p++[x]:=by
 unfold trimSuffix at h1
 rw [h2] at h1
 simp only [if_true] at h1
 rw [←hasSuffix_of_drop] at h2
 simp only [Bool.and_eq_true,decide_eq_true_eq,beq_iff_eq] at h2
 have:=List.take_append_drop (l.length - [x].length) l
 rw [h1,h2.2] at this
 exact this.symm
theorem tail_len (u:Nat):(tailL u).length≤7:=by
 unfold tailL
 have:=trimRightB_le (fix 7 u) 48
 rw [fix_length] at this
 exact this
theorem tail_zeros (u:Nat):tailL u++zeros (7-(tailL u).length)=fix 7 u∧hasSuffix (tailL u) [48]=false:=by
 obtain⟨k,h1,h2⟩:=trim_spec (fix 7 u)
 refine⟨?_,h2⟩
 have:=congrArg List.length h1
 rw [fix_length,List.length_append,zeros_len] at this
 unfold tailL
 rw [show 7-(trimRightB (fix 7 u) 48).length=k by omega,←h1]
theorem tail_all (u:Nat):(tailL u).all isD=true:=by
 have h:=fix_all 7 u
 rw [←(tail_zeros u).1,List.all_append,Bool.and_eq_true] at h
 exact h.1
theorem take_rate (v:Int):takeR (rateL v)=if v.natAbs≤10000000000 then (v,0) else (0,4):=by
 unfold takeR rateL
 have hassoc:signL v++(decDigits (v.natAbs / 10000000)++(dotL (tailL v.natAbs)++[37]))=(signL v++(decDigits (v.natAbs / 10000000)++dotL (tailL v.natAbs)))++[37]:=by simp
 rw [hassoc]
 obtain⟨s1,s2⟩:=trim_tail (signL v++(decDigits (v.natAbs / 10000000)++dotL (tailL v.natAbs))) 37
 rw [s1,s2]
 dsimp only
 obtain⟨e1,e2⟩:=trim_sign v (decDigits (v.natAbs / 10000000)++dotL (tailL v.natAbs)) (digit_not (decDigits_all _) 45 (by decide) _ (decDigits_ne _))
 rw [e1,e2]
 obtain⟨t1,t2⟩:=tail_zeros v.natAbs
 have t3:=tail_len v.natAbs
 have t4:=tail_all v.natAbs
 have hval:valL (decDigits (v.natAbs / 10000000)++fix 7 v.natAbs)=v.natAbs:=by
  rw [valL_append,valL_decDigits,valL_fix,fix_length];omega
 have key:∀ (P:List UInt8) (B:Bool),P=tailL v.natAbs→cutD (decDigits (v.natAbs / 10000000)++dotL (tailL v.natAbs))=(decDigits (v.natAbs / 10000000),P,B) →
   (!B||(decide (P.length≤7)&&digOnly P&&!hasSuffix P [48]))=true →
   (if (true&&okWhole (cutD (decDigits (v.natAbs / 10000000)++dotL (tailL v.natAbs))).1 4&&(!(cutD (decDigits (v.natAbs / 10000000)++dotL (tailL v.natAbs))).2.2||(decide ((cutD (decDigits (v.natAbs / 10000000)++dotL (tailL v.natAbs))).2.1.length≤7)&&digOnly (cutD (decDigits (v.natAbs / 10000000)++dotL (tailL v.natAbs))).2.1&&!hasSuffix (cutD (decDigits (v.natAbs / 10000000)++dotL (tailL v.natAbs))).2.1 [48])))=true then
     if valL ((cutD (decDigits (v.natAbs / 10000000)++dotL (tailL v.natAbs))).1++((cutD (decDigits (v.natAbs / 10000000)++dotL (tailL v.natAbs))).2.1++zeros (7-(cutD (decDigits (v.natAbs / 10000000)++dotL (tailL v.natAbs))).2.1.length)))≤10000000000 then sgnV (decide (v<0)) (valL ((cutD (decDigits (v.natAbs / 10000000)++dotL (tailL v.natAbs))).1++((cutD (decDigits (v.natAbs / 10000000)++dotL (tailL v.natAbs))).2.1++zeros (7-(cutD (decDigits (v.natAbs / 10000000)++dotL (tailL v.natAbs))).2.1.length)))) else (0,4)
    else (0,4))=if v.natAbs≤10000000000 then (v,0) else (0,4):=by
  intro P B hP hc hb
  rw [hc]
  dsimp only
  simp only [hb,Bool.true_and,Bool.and_true]
  rw [hP,t1,hval]
  by_cases hw:(decDigits (v.natAbs / 10000000)).length≤4
  ·rw [okWhole_dec _ 4 hw,if_pos rfl,sgnV_of v _ rfl]
  ·have hno:okWhole (decDigits (v.natAbs / 10000000)) 4=false:=by
    unfold okWhole;simp only [hw,decide_false,Bool.false_and]
   rw [hno,if_neg (by simp)]
   have:¬ v.natAbs≤10000000000:=fun hle=>by
    apply hw
    have h1:v.natAbs / 10000000≤20000:=by omega
    rw [Lib.decDigits_length]
    by_cases h2:v.natAbs / 10000000<10
    ·rw [nDigits_small h2];omega
    ·rw [nDigits_big h2]
     by_cases h3:v.natAbs / 10000000 / 10<10
     ·rw [nDigits_small h3];omega
     ·rw [nDigits_big h3]
      by_cases h4:v.natAbs / 10000000 / 10 / 10<10
      ·rw [nDigits_small h4];omega
      ·rw [nDigits_big h4,nDigits_small (by omega)];omega
   rw [if_neg this]
 cases ht:tailL v.natAbs with
 | nil =>
  rw [ht] at key
  apply key [] false rfl
  ·rw [show dotL [] = [] from rfl,List.append_nil,cutD_none _ (dot_not (decDigits_all _))]
  ·rfl
 | cons a b =>
  rw [ht] at key t2 t3 t4
  apply key (a::b) true rfl
  ·rw [show dotL (a::b)=46::a::b from rfl,cutD_hit _ _ (dot_not (decDigits_all _))]
  ·simp only [t2,t3,decide_true,Bool.not_true,Bool.false_or,Bool.true_and,Bool.not_false,Bool.and_true]
   unfold digOnly;rw [t4];rfl
theorem rate_take (l:List UInt8)(c:Int)(h:takeR l=(c,0)):rateL c=l∧c.natAbs≤10000000000:=by
 unfold takeR at h
 simp only at h
 split at h
 ·rename_i hc
  split at h
  ·rename_i hle
   obtain⟨k1,k2⟩:=sgnV_ok h
   simp only [Bool.and_eq_true] at hc
   obtain⟨⟨hs,hw⟩,hp⟩:=hc
   rcases hcd:cutD (trimPrefix (trimSuffix l [37]) [45]) with ⟨W,P,B⟩
   rw [hcd] at hw hp k1 hle
   simp only at hw hp k1 hle
   refine⟨?_,by omega⟩
   obtain⟨_,w2,w3,w4⟩:=okWhole_spec W 4 hw
   obtain⟨_,j1,j2⟩:=cutD_join _ _ _ _ hcd
   have hl:=suffix_join l _ 37 rfl hs
   have hsg:=sign_join (trimSuffix l [37]) _ c rfl k2
   have fin:∀ (hP7:P.length≤7) (hPa:P.all isD=true) (hPs:hasSuffix P [48]=false),rateL c=signL c++(W++(dotL P++[37])):=by
    intro hP7 hPa hPs
    unfold rateL tailL
    have hPZ:(P++zeros (7-P.length)).all isD=true:=by rw [List.all_append,hPa,zeros_all];rfl
    have hlen:(P++zeros (7-P.length)).length=7:=by rw [List.length_append,zeros_len];omega
    have hv2:=valL_lt _ hPZ
    rw [hlen] at hv2
    rw [k1,valL_append,hlen]
    have e1:(valL W * 10 ^ 7+valL (P++zeros (7-P.length))) / 10000000=valL W:=by omega
    have e2:fix 7 (valL W * 10 ^ 7+valL (P++zeros (7-P.length)))=P++zeros (7-P.length):=by
     have:=fix_valL _ hPZ (valL W);rw [hlen] at this;exact this
    rw [e1,e2,trim_zeros P hPs,decDigits_valL W w2 w3 w4]
   cases B
   ·obtain ⟨r1,r2⟩:=j2 rfl
    subst r2
    rw [fin (by simp) rfl rfl,hl,hsg,r1]
    simp [dotL]
   ·have r1:=j1 rfl
    simp only [Bool.not_true,Bool.false_or,Bool.and_eq_true,decide_eq_true_eq,Bool.not_eq_true'] at hp
    obtain⟨⟨p1,p2⟩,p3⟩:=hp
    unfold digOnly at p2
    simp only [Bool.and_eq_true,Bool.not_eq_true'] at p2
    rw [fin p1 p2.2 p3,hl,hsg,r1]
    have:dotL P=46::P:=by unfold dotL;rw [p2.1];rfl
    rw [this];simp
  ·simp at h
 ·simp at h
theorem bytes_ext (w:World)(e:TypeId)(s:ByteArray):Ext w (Lib.bytesWorld w e s) :=
 ⟨⟨rfl,rfl,rfl,by rw [Lib.bytesWorld_size];omega,fun k hk=>Lib.bytesWorld_at_old w e s k hk⟩⟩
theorem valL_take (l:List UInt8)(k:Nat):valL (l.take k)≤valL l:=by
 have h:=valL_append (l.take k) (l.drop k)
 rw [List.take_append_drop] at h
 have:valL (l.take k) * 1≤valL (l.take k) * 10 ^ (l.drop k).length:=Nat.mul_le_mul_left _ (Nat.pos_of_ne_zero (by simp))
 omega
theorem times10 (x y:Nat)(hy:y=10 * x)(w:World)(h10:y≤1000000000000000) :
  Calls Tryz.prog 190 #[.int .i64 (x:Int),.int .i64 10] w fun e w'=>e=.returned (.tuple #[.int .i64 (y:Int),.int .i64 0])∧Ext w w':=by
 refine (times_ok (x:Int) 10 w ⟨by omega,by omega⟩ ⟨by omega,by omega⟩ (by unfold mag;simp;omega)).mono ?_
 rintro e w' ⟨rfl,hx⟩
 exact⟨by rw [show (x:Int) * 10=(y:Int) by omega],hx⟩
theorem plus10 (y d z:Nat)(hz:z=y+d)(w:World)(h:z≤1000000000000000) :
  Calls Tryz.prog 191 #[.int .i64 (y:Int),.int .i64 (d:Int)] w fun e w'=>e=.returned (.tuple #[.int .i64 (z:Int),.int .i64 0])∧Ext w w':=by
 refine (plus_ok (y:Int) (d:Int) w (by omega) (by omega) (by omega) (by omega) (by omega) (by omega)).mono ?_
 rintro e w' ⟨rfl,hx⟩
 exact⟨by rw [show (y:Int)+(d:Int)=(z:Int) by omega],hx⟩
theorem plus10_no (y d:Nat)(w:World)(hy:y≤1000000000000000)(hd:d≤9)(h:1000000000000000<y+d) :
  Calls Tryz.prog 191 #[.int .i64 (y:Int),.int .i64 (d:Int)] w fun e w'=>e=.returned (.tuple #[.int .i64 0,.int .i64 3])∧Ext w w' :=
 plus_noS (y:Int) (d:Int) w (by omega) (by omega) (by omega) (by omega) (by omega)
theorem times10_no (x:Nat)(w:World)(h:x≤1000000000000000)(h10:1000000000000000<x * 10) :
  Calls Tryz.prog 190 #[.int .i64 (x:Int),.int .i64 10] w fun e w'=>e=.returned (.tuple #[.int .i64 0,.int .i64 3])∧Ext w w' :=
 times_no (x:Int) 10 w ⟨by omega,by omega⟩ ⟨by omega,by omega⟩ (by unfold mag;simp;omega)
theorem number_any (l:List UInt8)(w:World)(hl:l.length≤100)(ha:l.all isD=true) :
  Calls Tryz.prog 159 #[.string ⟨l.toArray⟩] w fun e w'=>((valL l≤1000000000000000∧e=.returned (.int .i64 (valL l:Nat)))∨(1000000000000000<valL l∧e=.panicked [{ v:=.iface 28 (.int .i64 3),recovered:=false }]))∧Ext w w':=by
 have hcv:=fun (w:World) (s:ByteArray)=>Lib.run_convert_string_bytes (P:=Tryz.prog) w 9 36 5 s Tryz.underlying9 Tryz.underlying36 Tryz.underlying5
 have HA:=hid ha
 clear ha
 go_enter Tryz.func159,Tryz.ntmps159
 go_wp2
 go_loopw [3,9] (fun v i wr=>∃ k:Nat,k≤l.length∧i=.int .i64 k∧v=.int .i64 (valL (l.take k):Nat)∧valL (l.take k)≤1000000000000000∧Hid (Ext (Lib.bytesWorld w 5 ⟨l.toArray⟩) wr)) (fun _ i _=>l.length-(RowKit.intOf i).toNat)
 case atStart=>exact ⟨0,Nat.zero_le _,rfl,rfl,Nat.zero_le _,Ext.refl _⟩
 case round =>
  obtain⟨k,hk,rfl,rfl,hb,hx⟩:=hrel
  clear hcv
  by_cases hlt:k<l.length
  ·obtain ⟨c,hc⟩:∃ c,l[k]?=some c:=⟨l[k],List.getElem?_eq_getElem hlt⟩
   have hd:isD c=true:=all_mem HA.out (List.mem_of_getElem? hc)
   have hr:=isD_range hd
   have hstep:valL (l.take (k+1))=10 * valL (l.take k)+(c.toNat-48):=by
    rw [List.take_add_one,hc,Option.toList_some,valL_snoc]
   have hle:=valL_take l (k+1)
   have hcell:wr.cell? ⟨w.heap.size,k,none⟩=some (.int .u8 (c.toNat:Int)):=by
    rw [hx.out.cell _ _ (by rw [Lib.bytesWorld_size];omega),Lib.bytesWorld_cell _ _ _ _ (by rw [Lib.size_mk];exact hlt)]
    simp [List.getD,hc]
   have hltI:(k:Int)<(l.length:Int):=by omega
   have hk0:(0:Int)≤(k:Int):=by omega
   have hwk:wrap64 ((k:Int)+1)=(k:Int)+1:=by unfold wrap64;omega
   have hw8:IntKind.u8.wrap ((c.toNat:Int)-48)=((c.toNat-48:Nat):Int):=by
    rw [IntKind.wrap_u8];omega
   have HC:=hid hc
   have HD:=hid hd
   have HS:=hid hstep
   have HL:=hid hle
   have HR:=hid hr
   clear hc hd hstep hle hr
   generalize hX:valL (l.take k)=X at *
   have HX:=hid hX
   clear hX
   obtain⟨D,hDn⟩:∃ D:Nat,D=c.toNat-48:=⟨_,rfl⟩
   have hD9:D≤9:=by have:=HR.out;omega
   rw [←hDn] at HS hw8
   replace hDn:=hid hDn
   obtain⟨Y,hY⟩:∃ Y:Nat,Y=10 * X:=⟨_,rfl⟩
   obtain⟨Z,hZ⟩:∃ Z:Nat,Z=Y+D:=⟨_,rfl⟩
   have hZs:valL (l.take (k+1))=Z:=by have:=HS.out;omega
   replace hY:=hid hY
   replace hZ:=hid hZ
   replace hZs:=hid hZs
   replace hb:=hid hb
   have HX0:=hid hx.out.below.size
   by_cases h10:Y≤1000000000000000
   ·replace h10:=hid h10
    by_cases hs:Z≤1000000000000000
    ·replace hs:=hid hs
     go_wp2_with fail
     refine (times10 X Y hY.out _ h10.out).mono ?_
     rintro e w1 ⟨rfl,hx1⟩
     go_wp2_with fail
     refine (sure_ok _ _).mono ?_
     rintro e w2 ⟨rfl,rfl⟩
     go_wp2_with fail
     refine (plus10 Y D Z hZ.out _ hs.out).mono ?_
     rintro e w3 ⟨rfl,hx3⟩
     go_wp2_with fail
     refine (sure_ok _ _).mono ?_
     rintro e w4 ⟨rfl,rfl⟩
     clear hcell hw8
     go_wp2
     go_roundw
     case rel=>exact ⟨k+1,by omega,by go_num,by rw [hZs.out],by rw [hZs.out];exact hs.out,(hx.out.trans hx1).trans hx3⟩
     case measure=>simp [RowKit.intOf];omega
    ·replace hs:Hid (1000000000000000<Z):=by show 1000000000000000<Z;omega
     go_wp2_with fail
     refine (times10 X Y hY.out _ h10.out).mono ?_
     rintro e w1 ⟨rfl,hx1⟩
     go_wp2_with fail
     refine (sure_ok _ _).mono ?_
     rintro e w2 ⟨rfl,rfl⟩
     go_wp2_with fail
     refine (plus10_no Y D _ h10.out hD9 (by have:=hs.out;have:=hZ.out;omega)).mono ?_
     rintro e w3 ⟨rfl,hx3⟩
     go_wp2_with fail
     refine (sure_no _).mono ?_
     rintro e w4 ⟨rfl,rfl⟩
     clear hcell hw8
     go_wp2
     exact⟨rfl,Or.inr ⟨by have:=hs.out;have:=hZs.out;have:=HL.out;omega,rfl⟩,(((bytes_ext _ _ _).trans hx.out).trans hx1).trans hx3⟩
   ·replace h10:Hid (1000000000000000<Y):=by show 1000000000000000<Y;omega
    go_wp2_with fail
    refine (times10_no X _ hb.out (by have:=h10.out;have:=hY.out;omega)).mono ?_
    rintro e w1 ⟨rfl,hx1⟩
    go_wp2_with fail
    refine (sure_no _).mono ?_
    rintro e w2 ⟨rfl,rfl⟩
    clear hcell hw8
    go_wp2
    exact⟨rfl,Or.inr ⟨by have:=h10.out;have:=hZ.out;have:=hZs.out;have:=HL.out;omega,rfl⟩,((bytes_ext _ _ _).trans hx.out).trans hx1⟩
  ·have hkl:k=l.length:=by omega
   subst hkl
   have e1:l.take l.length=l:=List.take_length
   rw [e1] at hb ⊢
   go_wp2
   go_ret
   exact⟨Or.inl ⟨hb,rfl⟩,(bytes_ext _ _ _).trans hx.out⟩
theorem number_ok (l:List UInt8)(w:World)(hl:l.length≤100)(ha:l.all isD=true)(n:Nat)(hn:valL l=n)(hv:n≤1000000000000000) :
  Calls Tryz.prog 159 #[.string ⟨l.toArray⟩] w fun e w'=>e=.returned (.int .i64 (n:Int))∧Ext w w':=by
 refine (number_any l w hl ha).mono ?_
 rintro e w' ⟨h,hx⟩
 rcases h with ⟨_,rfl⟩ | ⟨h,_⟩
 ·exact ⟨by rw [hn],hx⟩
 ·omega
theorem number_no (l:List UInt8)(w:World)(hl:l.length≤100)(ha:l.all isD=true)(hv:1000000000000000<valL l) :
  Calls Tryz.prog 159 #[.string ⟨l.toArray⟩] w fun e w'=>e=.panicked [{ v:=.iface 28 (.int .i64 3),recovered:=false }]∧Ext w w':=by
 refine (number_any l w hl ha).mono ?_
 rintro e w' ⟨h,hx⟩
 rcases h with ⟨h,_⟩ | ⟨_,rfl⟩
 ·omega
 ·exact ⟨rfl,hx⟩
structure Fr (w w1:World):Prop where
 ext:Ext w w1
 gp:w1.cell? ⟨w.heap.size,0,none⟩=some (.int .i64 0)
 gq:w1.cell? ⟨w.heap.size+1,0,none⟩=some (.int .i64 0)
 gpz:w1.frozen? ⟨w.heap.size,0,none⟩=false
 gqz:w1.frozen? ⟨w.heap.size+1,0,none⟩=false
theorem Fr.step {w w1 w2:World}(h:Fr w w1)(hx:Ext w1 w2):Fr w w2 :=
 ⟨h.ext.trans hx,by rw [hx.cell _ _ (lt_of_cell h.gp)];exact h.gp,by rw [hx.cell _ _ (lt_of_cell h.gq)];exact h.gq,
  by rw [hx.froz _ _ (lt_of_cell h.gp)];exact h.gpz,by rw [hx.froz _ _ (lt_of_cell h.gq)];exact h.gqz⟩
theorem sF {P:Program}{f:FuncId}{args:Array Value}{w w1:World}{v:Ending}{Q:Ending→World→Prop}(h:Calls P f args w1 fun e w'=>e=v∧Ext w1 w')(hF:Hid (Fr w w1))(k:∀ w2,Hid (Fr w w2)→Q v w2):Calls P f args w1 Q:=h.mono fun _ w2 h=>h.1 ▸ k w2 (hF.out.step h.2)
theorem Fr.start {w w1:World}{t t':TypeId}(hx:Ext ((w.alloc (.cells #[.int .i64 0] t)).alloc (.cells #[.int .i64 0] t')) w1):Fr w w1 :=
 ⟨(by exact ((Ext.refl w).alloc _ _).alloc _ _:Ext w _).trans hx,by rw [hx.cell _ _ (by simp;omega)];simp [go_sem],by rw [hx.cell _ _ (by simp)];simp [go_sem],
  by rw [hx.froz _ _ (by simp;omega)];simp [go_sem],by rw [hx.froz _ _ (by simp)];simp [go_sem]⟩
theorem cutSign_x (l sg r:List UInt8)(h1:cutL l=sg)(h2:trimPrefix l [45]=r)(w:World) :
  Calls Tryz.prog 155 #[.string ⟨l.toArray⟩] w fun e w'=>e=.returned (.tuple #[.string ⟨sg.toArray⟩,.string ⟨r.toArray⟩])∧Ext w w':=by
 refine (cutSign_c l w).mono ?_
 rintro e w' ⟨rfl,rfl⟩
 rw [h1,h2]
 exact⟨rfl,Ext.refl _⟩
theorem cut_c (r W P:List UInt8)(B:Bool)(h:cut r [46]=(W,P,B))(w:World)(hl:r.length≤20000)(he:Env w) :
  Calls Tryz.prog 107 #[.string ⟨r.toArray⟩,.string ⟨#[46]⟩] w fun e w'=>e=.returned (.tuple #[.string ⟨W.toArray⟩,.string ⟨P.toArray⟩,.bool B])∧Ext w w':=by
 obtain⟨⟨m,hm⟩,_⟩:=he
 refine (Tryz.strings_Cut ⟨r.toArray⟩ ⟨#[46]⟩ m w (by rw [Lib.size_mk];omega) hm).mono ?_
 rintro e w' ⟨rfl,n,rfl⟩
 have h':cut (⟨r.toArray⟩:ByteArray).data.toList (⟨#[46]⟩:ByteArray).data.toList=(W,P,B):=h
 rw [h']
 exact⟨rfl,(Ext.refl w).drewN n⟩
theorem cutSuffix_c (l p:List UInt8)(f:Bool)(h1:trimSuffix l [37]=p)(h2:hasSuffix l [37]=f)(hl:l.length≤20000)(w:World) :
  Calls Tryz.prog 153 #[.string ⟨l.toArray⟩,.string ⟨#[37]⟩] w fun e w'=>e=.returned (.tuple #[.string ⟨p.toArray⟩,.bool f])∧Ext w w':=by
 refine (Tryz.strings_CutSuffix ⟨l.toArray⟩ ⟨#[37]⟩ w (by rw [Lib.size_mk];omega)).mono ?_
 rintro e w' ⟨rfl,rfl⟩
 have h1':trimSuffix (⟨l.toArray⟩:ByteArray).data.toList (⟨#[37]⟩:ByteArray).data.toList=p:=h1
 have h2':hasSuffix (⟨l.toArray⟩:ByteArray).data.toList (⟨#[37]⟩:ByteArray).data.toList=f:=h2
 rw [h1',h2']
 exact⟨rfl,Ext.refl _⟩
theorem hasSuffix_c (l:List UInt8)(f:Bool)(h2:hasSuffix l [48]=f)(hl:l.length≤20000)(w:World) :
  Calls Tryz.prog 158 #[.string ⟨l.toArray⟩,.string ⟨#[48]⟩] w fun e w'=>e=.returned (.bool f)∧Ext w w':=by
 refine (Tryz.strings_HasSuffix ⟨l.toArray⟩ ⟨#[48]⟩ w (by rw [Lib.size_mk];omega)).mono ?_
 rintro e w' ⟨rfl,rfl⟩
 have h2':hasSuffix (⟨l.toArray⟩:ByteArray).data.toList (⟨#[48]⟩:ByteArray).data.toList=f:=h2
 rw [h2']
 exact⟨rfl,Ext.refl _⟩
theorem digitsOnly_x (l:List UInt8)(b:Bool)(h:digOnly l=b)(w:World)(hl:l.length≤20000) :
  Calls Tryz.prog 157 #[.string ⟨l.toArray⟩] w fun e w'=>e=.returned (.bool b)∧Ext w w':=h ▸ digitsOnly_c l w hl
theorem needForm_okx (w:World):Calls Tryz.prog 154 #[.bool true] w fun e w'=>e=.returned (.tuple #[])∧Ext w w' :=
 (needForm_ok w).mono fun _ _ ⟨h,k⟩=>⟨h,k ▸ Ext.refl _⟩
theorem needForm_nox (w:World):Calls Tryz.prog 154 #[.bool false] w fun e w'=>e=.panicked [{ v:=.iface 28 (.int .i64 4),recovered:=false }]∧Ext w w' :=
 (needForm_no w).mono fun _ _ ⟨h,k⟩=>⟨h,k ▸ Ext.refl _⟩
theorem signed_posx (n:Int)(w:World) :
  Calls Tryz.prog 161 #[.string ⟨#[]⟩,.int .i64 n] w fun e w'=>e=.returned (.int .i64 n)∧Ext w w' :=
 (signed_pos n w).mono fun _ _ ⟨h,k⟩=>⟨h,k ▸ Ext.refl _⟩
theorem signed_negx (n:Int)(w:World)(h0:0<n)(h1:n≤1000000000000000) :
  Calls Tryz.prog 161 #[.string ⟨#[45]⟩,.int .i64 n] w fun e w'=>e=.returned (.int .i64 (-n))∧Ext w w' :=
 (signed_neg n w h0 h1).mono fun _ _ ⟨h,k⟩=>⟨h,k ▸ Ext.refl _⟩
theorem signed_nilx (w:World) :
  Calls Tryz.prog 161 #[.string ⟨#[45]⟩,.int .i64 0] w fun e w'=>e=.panicked [{ v:=.iface 28 (.int .i64 4),recovered:=false }]∧Ext w w' :=
 (signed_nil w).mono fun _ _ ⟨h,k⟩=>⟨h,k ▸ Ext.refl _⟩
theorem tm_whole (l sg r W P:List UInt8)(B:Bool)(w:World)(h1:cutL l=sg)(h2:trimPrefix l [45]=r)(h3:cut r [46]=(W,P,B))(hr:r.length≤20000)(hW:W.length≤20000)(hP:P.length≤20000)(he:Env w)(ho:okWhole W 20=false) :
  Calls Tryz.prog 115 #[.string ⟨l.toArray⟩] w fun e w'=>e=.returned (.tuple #[.int .i64 0,.int .i64 4])∧Ext w w':=by
 have hmf:=make_func
 replace h1:=hid h1
 replace h2:=hid h2
 replace h3:=hid h3
 replace hr:=hid hr
 replace hW:=hid hW
 replace hP:=hid hP
 replace he:=hid he
 replace ho:=hid ho
 go_enter_defers Tryz.func115,Tryz.ntmps115
 go_wp2_with fail
 refine (cutSign_x l sg r h1.out h2.out _).mono ?_
 rintro e w1 ⟨rfl,hx⟩
 have hF:Hid (Fr w w1):=Fr.start hx
 clear hx
 go_wp2_with fail
 refine sF (cut_c r W P B h3.out _ hr.out (Env.ext he.out hF.out.ext)) hF fun w2 hF=>?_
 go_wp2_with fail
 refine sF (needWhole_no W 20 _ hW.out (by omega) ho.out) hF fun w2 hF=>?_
 obtain⟨hx0,gp,gq,gpz,gqz⟩:=hF.out
 clear hF
 replace hx0:Hid (Ext _ _):=hx0
 go_wp2
 replace hx0:=hx0.out
 refine leaves_cons (f:=162) (args:=#[.pointer (some ⟨w.heap.size,0,none⟩),.pointer (some ⟨w.heap.size+1,0,none⟩)]) (by simp) (by simp [go_sem]) ?_
 refine (tm_catch w.heap.size 4 0 0 [] _ ?_ ?_ ?_ ?_).mono ?_
 ·simp [go_sem,gp]
 ·simp [go_sem,gq]
 ·simp [go_sem,gpz]
 ·simp [go_sem,gqz]
 rintro e u' w'' ⟨rfl,rfl,w3,hy,rfl⟩
 have hs1:=lt_of_cell gp
 have hs:=lt_of_cell gq
 have hp2:(w3.cell? ⟨w.heap.size,0,none⟩).isSome=true:=by rw [hy.cell _ _ (by simpa [World.setCell] using hs1)];simp [go_sem,gp]
 have hq2:(w3.cell? ⟨w.heap.size+1,0,none⟩).isSome=true:=by rw [hy.cell _ _ (by simpa [World.setCell] using hs)];simp [go_sem,gq]
 obtain⟨vp,hp2⟩:=Option.isSome_iff_exists.1 hp2
 obtain⟨vq,hq2⟩:=Option.isSome_iff_exists.1 hq2
 simp [Leaves,Go.settle,results,Tryz.results115,go_sem,hp2,hq2]
 refine ((Ext.trans ?_ hy).setCell (Nat.le_refl _) _).setCell (by show w.heap.size≤w.heap.size+1;omega) _
 exact hx0
theorem tm_len (l sg r W P:List UInt8)(B:Bool)(w:World)(h1:cutL l=sg)(h2:trimPrefix l [45]=r)(h3:cut r [46]=(W,P,B))(hr:r.length≤20000)(hW:W.length≤20000)(hP:P.length≤20000)(he:Env w)(ho:okWhole W 20=true)(hne:((P.length:Int)==2)=false) :
  Calls Tryz.prog 115 #[.string ⟨l.toArray⟩] w fun e w'=>e=.returned (.tuple #[.int .i64 0,.int .i64 4])∧Ext w w':=by
 have hmf:=make_func
 replace h1:=hid h1
 replace h2:=hid h2
 replace h3:=hid h3
 replace hr:=hid hr
 replace hW:=hid hW
 replace hP:=hid hP
 replace he:=hid he
 replace ho:=hid ho
 go_enter_defers Tryz.func115,Tryz.ntmps115
 go_wp2_with fail
 refine (cutSign_x l sg r h1.out h2.out _).mono ?_
 rintro e w1 ⟨rfl,hx⟩
 have hF:Hid (Fr w w1):=Fr.start hx
 clear hx
 go_wp2_with fail
 refine sF (cut_c r W P B h3.out _ hr.out (Env.ext he.out hF.out.ext)) hF fun w2 hF=>?_
 go_wp2_with fail
 refine sF (needWhole_ok W 20 _ hW.out (by omega) ho.out) hF fun w2 hF=>?_
 go_wp2_with fail
 refine sF (needForm_nox _) hF fun w2 hF=>?_
 obtain⟨hx0,gp,gq,gpz,gqz⟩:=hF.out
 clear hF
 replace hx0:Hid (Ext _ _):=hx0
 go_wp2
 replace hx0:=hx0.out
 refine leaves_cons (f:=162) (args:=#[.pointer (some ⟨w.heap.size,0,none⟩),.pointer (some ⟨w.heap.size+1,0,none⟩)]) (by simp) (by simp [go_sem]) ?_
 refine (tm_catch w.heap.size 4 0 0 [] _ ?_ ?_ ?_ ?_).mono ?_
 ·simp [go_sem,gp]
 ·simp [go_sem,gq]
 ·simp [go_sem,gpz]
 ·simp [go_sem,gqz]
 rintro e u' w'' ⟨rfl,rfl,w3,hy,rfl⟩
 have hs1:=lt_of_cell gp
 have hs:=lt_of_cell gq
 have hp2:(w3.cell? ⟨w.heap.size,0,none⟩).isSome=true:=by rw [hy.cell _ _ (by simpa [World.setCell] using hs1)];simp [go_sem,gp]
 have hq2:(w3.cell? ⟨w.heap.size+1,0,none⟩).isSome=true:=by rw [hy.cell _ _ (by simpa [World.setCell] using hs)];simp [go_sem,gq]
 obtain⟨vp,hp2⟩:=Option.isSome_iff_exists.1 hp2
 obtain⟨vq,hq2⟩:=Option.isSome_iff_exists.1 hq2
 simp [Leaves,Go.settle,results,Tryz.results115,go_sem,hp2,hq2]
 refine ((Ext.trans ?_ hy).setCell (Nat.le_refl _) _).setCell (by show w.heap.size≤w.heap.size+1;omega) _
 exact hx0
theorem tm_part (l sg r W P:List UInt8)(B:Bool)(w:World)(h1:cutL l=sg)(h2:trimPrefix l [45]=r)(h3:cut r [46]=(W,P,B))(hr:r.length≤20000)(hW:W.length≤20000)(hP:P.length≤20000)(he:Env w)(ho:okWhole W 20=true)(hl2:P.length=2)(hd:digOnly P=false) :
  Calls Tryz.prog 115 #[.string ⟨l.toArray⟩] w fun e w'=>e=.returned (.tuple #[.int .i64 0,.int .i64 4])∧Ext w w':=by
 have hmf:=make_func
 replace h1:=hid h1
 replace h2:=hid h2
 replace h3:=hid h3
 replace hr:=hid hr
 replace hW:=hid hW
 replace hP:=hid hP
 replace he:=hid he
 replace ho:=hid ho
 replace hd:=hid hd
 go_enter_defers Tryz.func115,Tryz.ntmps115
 go_wp2_with fail
 refine (cutSign_x l sg r h1.out h2.out _).mono ?_
 rintro e w1 ⟨rfl,hx⟩
 have hF:Hid (Fr w w1):=Fr.start hx
 clear hx
 go_wp2_with fail
 refine sF (cut_c r W P B h3.out _ hr.out (Env.ext he.out hF.out.ext)) hF fun w2 hF=>?_
 go_wp2_with fail
 refine sF (needWhole_ok W 20 _ hW.out (by omega) ho.out) hF fun w2 hF=>?_
 go_wp2_with fail
 refine sF (digitsOnly_x P false hd.out _ hP.out) hF fun w2 hF=>?_
 go_wp2_with fail
 refine sF (needForm_nox _) hF fun w2 hF=>?_
 obtain⟨hx0,gp,gq,gpz,gqz⟩:=hF.out
 clear hF
 replace hx0:Hid (Ext _ _):=hx0
 go_wp2
 replace hx0:=hx0.out
 refine leaves_cons (f:=162) (args:=#[.pointer (some ⟨w.heap.size,0,none⟩),.pointer (some ⟨w.heap.size+1,0,none⟩)]) (by simp) (by simp [go_sem]) ?_
 refine (tm_catch w.heap.size 4 0 0 [] _ ?_ ?_ ?_ ?_).mono ?_
 ·simp [go_sem,gp]
 ·simp [go_sem,gq]
 ·simp [go_sem,gpz]
 ·simp [go_sem,gqz]
 rintro e u' w'' ⟨rfl,rfl,w3,hy,rfl⟩
 have hs1:=lt_of_cell gp
 have hs:=lt_of_cell gq
 have hp2:(w3.cell? ⟨w.heap.size,0,none⟩).isSome=true:=by rw [hy.cell _ _ (by simpa [World.setCell] using hs1)];simp [go_sem,gp]
 have hq2:(w3.cell? ⟨w.heap.size+1,0,none⟩).isSome=true:=by rw [hy.cell _ _ (by simpa [World.setCell] using hs)];simp [go_sem,gq]
 obtain⟨vp,hp2⟩:=Option.isSome_iff_exists.1 hp2
 obtain⟨vq,hq2⟩:=Option.isSome_iff_exists.1 hq2
 simp [Leaves,Go.settle,results,Tryz.results115,go_sem,hp2,hq2]
 refine ((Ext.trans ?_ hy).setCell (Nat.le_refl _) _).setCell (by show w.heap.size≤w.heap.size+1;omega) _
 exact hx0
theorem tm_range (l sg r W P:List UInt8)(B:Bool)(w:World)(h1:cutL l=sg)(h2:trimPrefix l [45]=r)(h3:cut r [46]=(W,P,B))(hr:r.length≤20000)(hW:W.length≤20000)(hP:P.length≤20000)(he:Env w)(ho:okWhole W 20=true)(hl2:P.length=2)(hd:digOnly P=true)(hWl:W.length≤20)(hall:(W++P).all isD=true)(hv:1000000000000000<valL (W++P)) :
  Calls Tryz.prog 115 #[.string ⟨l.toArray⟩] w fun e w'=>e=.returned (.tuple #[.int .i64 0,.int .i64 3])∧Ext w w':=by
 have hmf:=make_func
 replace h1:=hid h1
 replace h2:=hid h2
 replace h3:=hid h3
 replace hr:=hid hr
 replace hW:=hid hW
 replace hP:=hid hP
 replace he:=hid he
 replace ho:=hid ho
 replace hd:=hid hd
 replace hall:=hid hall
 replace hv:=hid hv
 go_enter_defers Tryz.func115,Tryz.ntmps115
 go_wp2_with fail
 refine (cutSign_x l sg r h1.out h2.out _).mono ?_
 rintro e w1 ⟨rfl,hx⟩
 have hF:Hid (Fr w w1):=Fr.start hx
 clear hx
 go_wp2_with fail
 refine sF (cut_c r W P B h3.out _ hr.out (Env.ext he.out hF.out.ext)) hF fun w2 hF=>?_
 go_wp2_with fail
 refine sF (needWhole_ok W 20 _ hW.out (by omega) ho.out) hF fun w2 hF=>?_
 go_wp2_with fail
 refine sF (digitsOnly_x P true hd.out _ hP.out) hF fun w2 hF=>?_
 go_wp2_with fail
 refine sF (needForm_okx _) hF fun w2 hF=>?_
 have hbig:¬ 9223372036854775807<W.length+2:=by omega
 go_wp2_with fail
 refine sF (number_no (W++P) _ (by simp;omega) hall.out hv.out) hF fun w2 hF=>?_
 obtain⟨hx0,gp,gq,gpz,gqz⟩:=hF.out
 clear hF
 replace hx0:Hid (Ext _ _):=hx0
 go_wp2
 replace hx0:=hx0.out
 refine leaves_cons (f:=162) (args:=#[.pointer (some ⟨w.heap.size,0,none⟩),.pointer (some ⟨w.heap.size+1,0,none⟩)]) (by simp) (by simp [go_sem]) ?_
 refine (tm_catch w.heap.size 3 0 0 [] _ ?_ ?_ ?_ ?_).mono ?_
 ·simp [go_sem,gp]
 ·simp [go_sem,gq]
 ·simp [go_sem,gpz]
 ·simp [go_sem,gqz]
 rintro e u' w'' ⟨rfl,rfl,w3,hy,rfl⟩
 have hs1:=lt_of_cell gp
 have hs:=lt_of_cell gq
 have hp2:(w3.cell? ⟨w.heap.size,0,none⟩).isSome=true:=by rw [hy.cell _ _ (by simpa [World.setCell] using hs1)];simp [go_sem,gp]
 have hq2:(w3.cell? ⟨w.heap.size+1,0,none⟩).isSome=true:=by rw [hy.cell _ _ (by simpa [World.setCell] using hs)];simp [go_sem,gq]
 obtain⟨vp,hp2⟩:=Option.isSome_iff_exists.1 hp2
 obtain⟨vq,hq2⟩:=Option.isSome_iff_exists.1 hq2
 simp [Leaves,Go.settle,results,Tryz.results115,go_sem,hp2,hq2]
 refine ((Ext.trans ?_ hy).setCell (Nat.le_refl _) _).setCell (by show w.heap.size≤w.heap.size+1;omega) _
 exact hx0
theorem tm_pos (l r W P:List UInt8)(B:Bool)(w:World)(h1:cutL l = [])(h2:trimPrefix l [45]=r)(h3:cut r [46]=(W,P,B))(hr:r.length≤20000)(hW:W.length≤20000)(hP:P.length≤20000)(he:Env w)(ho:okWhole W 20=true)(hl2:P.length=2)(hd:digOnly P=true)(hWl:W.length≤20)(hall:(W++P).all isD=true)(n:Nat)(hn:valL (W++P)=n)(hv:n≤1000000000000000) :
  Calls Tryz.prog 115 #[.string ⟨l.toArray⟩] w fun e w'=>e=.returned (.tuple #[.int .i64 (n:Int),.int .i64 0])∧Ext w w':=by
 have hmf:=make_func
 replace h1:=hid h1
 replace h2:=hid h2
 replace h3:=hid h3
 replace hr:=hid hr
 replace hW:=hid hW
 replace hP:=hid hP
 replace he:=hid he
 replace ho:=hid ho
 replace hd:=hid hd
 replace hall:=hid hall
 replace hn:=hid hn
 replace hv:=hid hv
 go_enter_defers Tryz.func115,Tryz.ntmps115
 go_wp2_with fail
 refine (cutSign_x l [] r h1.out h2.out _).mono ?_
 rintro e w1 ⟨rfl,hx⟩
 have hF:Hid (Fr w w1):=Fr.start hx
 clear hx
 go_wp2_with fail
 refine sF (cut_c r W P B h3.out _ hr.out (Env.ext he.out hF.out.ext)) hF fun w2 hF=>?_
 go_wp2_with fail
 refine sF (needWhole_ok W 20 _ hW.out (by omega) ho.out) hF fun w2 hF=>?_
 go_wp2_with fail
 refine sF (digitsOnly_x P true hd.out _ hP.out) hF fun w2 hF=>?_
 go_wp2_with fail
 refine sF (needForm_okx _) hF fun w2 hF=>?_
 have hbig:¬ 9223372036854775807<W.length+2:=by omega
 go_wp2_with fail
 refine sF (number_ok (W++P) _ (by simp;omega) hall.out n hn.out hv.out) hF fun w2 hF=>?_
 go_wp2_with fail
 refine sF (signed_posx _ _) hF fun w2 hF=>?_
 obtain⟨hx0,gp,gq,gpz,gqz⟩:=hF.out
 clear hF
 replace hx0:Hid (Ext _ _):=hx0
 go_wp2
 replace hx0:=hx0.out
 refine leaves_cons (f:=162) (args:=#[.pointer (some ⟨w.heap.size,0,none⟩),.pointer (some ⟨w.heap.size+1,0,none⟩)]) (by simp) (by simp [go_sem]) ?_
 refine (tm_idle w.heap.size ((n:Int)) 0 _ ?_ ?_ ?_ ?_).mono ?_
 ·simp [go_sem,gp]
 ·simp [go_sem,gq]
 ·simp [go_sem,gpz]
 ·simp [go_sem,gqz]
 rintro e u' w'' ⟨rfl,rfl,w3,hy,rfl⟩
 have hs1:=lt_of_cell gp
 have hs:=lt_of_cell gq
 have hp2:(w3.cell? ⟨w.heap.size,0,none⟩).isSome=true:=by rw [hy.cell _ _ (by simpa [World.setCell] using hs1)];simp [go_sem,gp]
 have hq2:(w3.cell? ⟨w.heap.size+1,0,none⟩).isSome=true:=by rw [hy.cell _ _ (by simpa [World.setCell] using hs)];simp [go_sem,gq]
 obtain⟨vp,hp2⟩:=Option.isSome_iff_exists.1 hp2
 obtain⟨vq,hq2⟩:=Option.isSome_iff_exists.1 hq2
 simp [Leaves,Go.settle,results,Tryz.results115,go_sem,hp2,hq2]
 refine ((Ext.trans ?_ hy).setCell (Nat.le_refl _) _).setCell (by show w.heap.size≤w.heap.size+1;omega) _
 exact (hx0.setCell (Nat.le_refl _) _).setCell (by show w.heap.size≤w.heap.size+1;omega) _
theorem tm_neg (l r W P:List UInt8)(B:Bool)(w:World)(h1:cutL l = [45])(h2:trimPrefix l [45]=r)(h3:cut r [46]=(W,P,B))(hr:r.length≤20000)(hW:W.length≤20000)(hP:P.length≤20000)(he:Env w)(ho:okWhole W 20=true)(hl2:P.length=2)(hd:digOnly P=true)(hWl:W.length≤20)(hall:(W++P).all isD=true)(n:Nat)(hn:valL (W++P)=n)(hv:n≤1000000000000000)(hn0:0<n) :
  Calls Tryz.prog 115 #[.string ⟨l.toArray⟩] w fun e w'=>e=.returned (.tuple #[.int .i64 (-(n:Int)),.int .i64 0])∧Ext w w':=by
 have hmf:=make_func
 replace h1:=hid h1
 replace h2:=hid h2
 replace h3:=hid h3
 replace hr:=hid hr
 replace hW:=hid hW
 replace hP:=hid hP
 replace he:=hid he
 replace ho:=hid ho
 replace hd:=hid hd
 replace hall:=hid hall
 replace hn:=hid hn
 replace hv:=hid hv
 replace hn0:=hid hn0
 go_enter_defers Tryz.func115,Tryz.ntmps115
 go_wp2_with fail
 refine (cutSign_x l [45] r h1.out h2.out _).mono ?_
 rintro e w1 ⟨rfl,hx⟩
 have hF:Hid (Fr w w1):=Fr.start hx
 clear hx
 go_wp2_with fail
 refine sF (cut_c r W P B h3.out _ hr.out (Env.ext he.out hF.out.ext)) hF fun w2 hF=>?_
 go_wp2_with fail
 refine sF (needWhole_ok W 20 _ hW.out (by omega) ho.out) hF fun w2 hF=>?_
 go_wp2_with fail
 refine sF (digitsOnly_x P true hd.out _ hP.out) hF fun w2 hF=>?_
 go_wp2_with fail
 refine sF (needForm_okx _) hF fun w2 hF=>?_
 have hbig:¬ 9223372036854775807<W.length+2:=by omega
 go_wp2_with fail
 refine sF (number_ok (W++P) _ (by simp;omega) hall.out n hn.out hv.out) hF fun w2 hF=>?_
 go_wp2_with fail
 refine sF (signed_negx (n:Int) _ (by have:=hn0.out;omega) (by have:=hv.out;omega)) hF fun w2 hF=>?_
 obtain⟨hx0,gp,gq,gpz,gqz⟩:=hF.out
 clear hF
 replace hx0:Hid (Ext _ _):=hx0
 go_wp2
 replace hx0:=hx0.out
 refine leaves_cons (f:=162) (args:=#[.pointer (some ⟨w.heap.size,0,none⟩),.pointer (some ⟨w.heap.size+1,0,none⟩)]) (by simp) (by simp [go_sem]) ?_
 refine (tm_idle w.heap.size ((-(n:Int))) 0 _ ?_ ?_ ?_ ?_).mono ?_
 ·simp [go_sem,gp]
 ·simp [go_sem,gq]
 ·simp [go_sem,gpz]
 ·simp [go_sem,gqz]
 rintro e u' w'' ⟨rfl,rfl,w3,hy,rfl⟩
 have hs1:=lt_of_cell gp
 have hs:=lt_of_cell gq
 have hp2:(w3.cell? ⟨w.heap.size,0,none⟩).isSome=true:=by rw [hy.cell _ _ (by simpa [World.setCell] using hs1)];simp [go_sem,gp]
 have hq2:(w3.cell? ⟨w.heap.size+1,0,none⟩).isSome=true:=by rw [hy.cell _ _ (by simpa [World.setCell] using hs)];simp [go_sem,gq]
 obtain⟨vp,hp2⟩:=Option.isSome_iff_exists.1 hp2
 obtain⟨vq,hq2⟩:=Option.isSome_iff_exists.1 hq2
 simp [Leaves,Go.settle,results,Tryz.results115,go_sem,hp2,hq2]
 refine ((Ext.trans ?_ hy).setCell (Nat.le_refl _) _).setCell (by show w.heap.size≤w.heap.size+1;omega) _
 exact (hx0.setCell (Nat.le_refl _) _).setCell (by show w.heap.size≤w.heap.size+1;omega) _
theorem tm_nil (l r W P:List UInt8)(B:Bool)(w:World)(h1:cutL l = [45])(h2:trimPrefix l [45]=r)(h3:cut r [46]=(W,P,B))(hr:r.length≤20000)(hW:W.length≤20000)(hP:P.length≤20000)(he:Env w)(ho:okWhole W 20=true)(hl2:P.length=2)(hd:digOnly P=true)(hWl:W.length≤20)(hall:(W++P).all isD=true)(hn:valL (W++P)=0) :
  Calls Tryz.prog 115 #[.string ⟨l.toArray⟩] w fun e w'=>e=.returned (.tuple #[.int .i64 0,.int .i64 4])∧Ext w w':=by
 have hmf:=make_func
 replace h1:=hid h1
 replace h2:=hid h2
 replace h3:=hid h3
 replace hr:=hid hr
 replace hW:=hid hW
 replace hP:=hid hP
 replace he:=hid he
 replace ho:=hid ho
 replace hd:=hid hd
 replace hall:=hid hall
 replace hn:=hid hn
 go_enter_defers Tryz.func115,Tryz.ntmps115
 go_wp2_with fail
 refine (cutSign_x l [45] r h1.out h2.out _).mono ?_
 rintro e w1 ⟨rfl,hx⟩
 have hF:Hid (Fr w w1):=Fr.start hx
 clear hx
 go_wp2_with fail
 refine sF (cut_c r W P B h3.out _ hr.out (Env.ext he.out hF.out.ext)) hF fun w2 hF=>?_
 go_wp2_with fail
 refine sF (needWhole_ok W 20 _ hW.out (by omega) ho.out) hF fun w2 hF=>?_
 go_wp2_with fail
 refine sF (digitsOnly_x P true hd.out _ hP.out) hF fun w2 hF=>?_
 go_wp2_with fail
 refine sF (needForm_okx _) hF fun w2 hF=>?_
 have hbig:¬ 9223372036854775807<W.length+2:=by omega
 go_wp2_with fail
 refine sF (number_ok (W++P) _ (by simp;omega) hall.out 0 hn.out (by omega)) hF fun w2 hF=>?_
 go_wp2_with fail
 refine sF (signed_nilx _) hF fun w2 hF=>?_
 obtain⟨hx0,gp,gq,gpz,gqz⟩:=hF.out
 clear hF
 replace hx0:Hid (Ext _ _):=hx0
 go_wp2
 replace hx0:=hx0.out
 refine leaves_cons (f:=162) (args:=#[.pointer (some ⟨w.heap.size,0,none⟩),.pointer (some ⟨w.heap.size+1,0,none⟩)]) (by simp) (by simp [go_sem]) ?_
 refine (tm_catch w.heap.size 4 0 0 [] _ ?_ ?_ ?_ ?_).mono ?_
 ·simp [go_sem,gp]
 ·simp [go_sem,gq]
 ·simp [go_sem,gpz]
 ·simp [go_sem,gqz]
 rintro e u' w'' ⟨rfl,rfl,w3,hy,rfl⟩
 have hs1:=lt_of_cell gp
 have hs:=lt_of_cell gq
 have hp2:(w3.cell? ⟨w.heap.size,0,none⟩).isSome=true:=by rw [hy.cell _ _ (by simpa [World.setCell] using hs1)];simp [go_sem,gp]
 have hq2:(w3.cell? ⟨w.heap.size+1,0,none⟩).isSome=true:=by rw [hy.cell _ _ (by simpa [World.setCell] using hs)];simp [go_sem,gq]
 obtain⟨vp,hp2⟩:=Option.isSome_iff_exists.1 hp2
 obtain⟨vq,hq2⟩:=Option.isSome_iff_exists.1 hq2
 simp [Leaves,Go.settle,results,Tryz.results115,go_sem,hp2,hq2]
 refine ((Ext.trans ?_ hy).setCell (Nat.le_refl _) _).setCell (by show w.heap.size≤w.heap.size+1;omega) _
 exact hx0
theorem noughts_x (n:Int)(Z:List UInt8)(hz:zeros n.toNat=Z)(w:World)(hn:n≤100)(hn0:-100≤n) :
  Calls Tryz.prog 160 #[.int .i64 n] w fun e w'=>e=.returned (.string ⟨Z.toArray⟩)∧Ext w w':=hz ▸ noughts_c n w hn hn0
theorem tr_form (l p:List UInt8)(w:World)(g1:trimSuffix l [37]=p)(g2:hasSuffix l [37]=false)(hl:l.length≤20000) :
  Calls Tryz.prog 114 #[.string ⟨l.toArray⟩] w fun e w'=>e=.returned (.tuple #[.int .i64 0,.int .i64 4])∧Ext w w':=by
 have hmf:=make_func
 replace g1:=hid g1
 replace g2:=hid g2
 replace hl:=hid hl
 go_enter_defers Tryz.func114,Tryz.ntmps114
 go_wp2_with fail
 refine (cutSuffix_c l p false g1.out g2.out hl.out _).mono ?_
 rintro e w1 ⟨rfl,hx⟩
 have hF:Hid (Fr w w1):=Fr.start hx
 clear hx
 go_wp2_with fail
 refine sF (needForm_nox _) hF fun w2 hF=>?_
 obtain⟨hx0,gp,gq,gpz,gqz⟩:=hF.out
 clear hF
 replace hx0:Hid (Ext _ _):=hx0
 go_wp2
 replace hx0:=hx0.out
 refine leaves_cons (f:=151) (args:=#[.pointer (some ⟨w.heap.size,0,none⟩),.pointer (some ⟨w.heap.size+1,0,none⟩)]) (by simp) (by simp [go_sem]) ?_
 refine (tr_catch w.heap.size 4 0 0 [] _ ?_ ?_ ?_ ?_).mono ?_
 ·simp [go_sem,gp]
 ·simp [go_sem,gq]
 ·simp [go_sem,gpz]
 ·simp [go_sem,gqz]
 rintro e u' w'' ⟨rfl,rfl,w3,hy,rfl⟩
 have hs1:=lt_of_cell gp
 have hs:=lt_of_cell gq
 have hp2:(w3.cell? ⟨w.heap.size,0,none⟩).isSome=true:=by rw [hy.cell _ _ (by simpa [World.setCell] using hs1)];simp [go_sem,gp]
 have hq2:(w3.cell? ⟨w.heap.size+1,0,none⟩).isSome=true:=by rw [hy.cell _ _ (by simpa [World.setCell] using hs)];simp [go_sem,gq]
 obtain⟨vp,hp2⟩:=Option.isSome_iff_exists.1 hp2
 obtain⟨vq,hq2⟩:=Option.isSome_iff_exists.1 hq2
 simp [Leaves,Go.settle,results,Tryz.results114,go_sem,hp2,hq2]
 refine ((Ext.trans ?_ hy).setCell (Nat.le_refl _) _).setCell (by show w.heap.size≤w.heap.size+1;omega) _
 exact hx0
theorem tr_whole (l p sg r W P:List UInt8)(B:Bool)(w:World)(g1:trimSuffix l [37]=p)(g2:hasSuffix l [37]=true)(hl:l.length≤20000)(h1:cutL p=sg)(h2:trimPrefix p [45]=r)(h3:cut r [46]=(W,P,B))(hr:r.length≤20000)(hW:W.length≤20000)(hP:P.length≤20000)(he:Env w)(ho:okWhole W 4=false) :
  Calls Tryz.prog 114 #[.string ⟨l.toArray⟩] w fun e w'=>e=.returned (.tuple #[.int .i64 0,.int .i64 4])∧Ext w w':=by
 have hmf:=make_func
 replace g1:=hid g1
 replace g2:=hid g2
 replace hl:=hid hl
 replace h1:=hid h1
 replace h2:=hid h2
 replace h3:=hid h3
 replace hr:=hid hr
 replace hW:=hid hW
 replace hP:=hid hP
 replace he:=hid he
 replace ho:=hid ho
 go_enter_defers Tryz.func114,Tryz.ntmps114
 go_wp2_with fail
 refine (cutSuffix_c l p true g1.out g2.out hl.out _).mono ?_
 rintro e w1 ⟨rfl,hx⟩
 have hF:Hid (Fr w w1):=Fr.start hx
 clear hx
 go_wp2_with fail
 refine sF (needForm_okx _) hF fun w2 hF=>?_
 go_wp2_with fail
 refine sF (cutSign_x p sg r h1.out h2.out _) hF fun w2 hF=>?_
 go_wp2_with fail
 refine sF (cut_c r W P B h3.out _ hr.out (Env.ext he.out hF.out.ext)) hF fun w2 hF=>?_
 go_wp2_with fail
 refine sF (needWhole_no W 4 _ hW.out (by omega) ho.out) hF fun w2 hF=>?_
 obtain⟨hx0,gp,gq,gpz,gqz⟩:=hF.out
 clear hF
 replace hx0:Hid (Ext _ _):=hx0
 go_wp2
 replace hx0:=hx0.out
 refine leaves_cons (f:=151) (args:=#[.pointer (some ⟨w.heap.size,0,none⟩),.pointer (some ⟨w.heap.size+1,0,none⟩)]) (by simp) (by simp [go_sem]) ?_
 refine (tr_catch w.heap.size 4 0 0 [] _ ?_ ?_ ?_ ?_).mono ?_
 ·simp [go_sem,gp]
 ·simp [go_sem,gq]
 ·simp [go_sem,gpz]
 ·simp [go_sem,gqz]
 rintro e u' w'' ⟨rfl,rfl,w3,hy,rfl⟩
 have hs1:=lt_of_cell gp
 have hs:=lt_of_cell gq
 have hp2:(w3.cell? ⟨w.heap.size,0,none⟩).isSome=true:=by rw [hy.cell _ _ (by simpa [World.setCell] using hs1)];simp [go_sem,gp]
 have hq2:(w3.cell? ⟨w.heap.size+1,0,none⟩).isSome=true:=by rw [hy.cell _ _ (by simpa [World.setCell] using hs)];simp [go_sem,gq]
 obtain⟨vp,hp2⟩:=Option.isSome_iff_exists.1 hp2
 obtain⟨vq,hq2⟩:=Option.isSome_iff_exists.1 hq2
 simp [Leaves,Go.settle,results,Tryz.results114,go_sem,hp2,hq2]
 refine ((Ext.trans ?_ hy).setCell (Nat.le_refl _) _).setCell (by show w.heap.size≤w.heap.size+1;omega) _
 exact hx0
theorem tr_long (l p sg r W P:List UInt8)(w:World)(g1:trimSuffix l [37]=p)(g2:hasSuffix l [37]=true)(hl:l.length≤20000)(h1:cutL p=sg)(h2:trimPrefix p [45]=r)(h3:cut r [46]=(W,P,true))(hr:r.length≤20000)(hW:W.length≤20000)(hP:P.length≤20000)(he:Env w)(ho:okWhole W 4=true)(hlen:¬ (P.length:Int)≤7) :
  Calls Tryz.prog 114 #[.string ⟨l.toArray⟩] w fun e w'=>e=.returned (.tuple #[.int .i64 0,.int .i64 4])∧Ext w w':=by
 have hmf:=make_func
 replace g1:=hid g1
 replace g2:=hid g2
 replace hl:=hid hl
 replace h1:=hid h1
 replace h2:=hid h2
 replace h3:=hid h3
 replace hr:=hid hr
 replace hW:=hid hW
 replace hP:=hid hP
 replace he:=hid he
 replace ho:=hid ho
 go_enter_defers Tryz.func114,Tryz.ntmps114
 go_wp2_with fail
 refine (cutSuffix_c l p true g1.out g2.out hl.out _).mono ?_
 rintro e w1 ⟨rfl,hx⟩
 have hF:Hid (Fr w w1):=Fr.start hx
 clear hx
 go_wp2_with fail
 refine sF (needForm_okx _) hF fun w2 hF=>?_
 go_wp2_with fail
 refine sF (cutSign_x p sg r h1.out h2.out _) hF fun w2 hF=>?_
 go_wp2_with fail
 refine sF (cut_c r W P true h3.out _ hr.out (Env.ext he.out hF.out.ext)) hF fun w2 hF=>?_
 go_wp2_with fail
 refine sF (needWhole_ok W 4 _ hW.out (by omega) ho.out) hF fun w2 hF=>?_
 go_wp2_with fail
 refine sF (needForm_nox _) hF fun w2 hF=>?_
 obtain⟨hx0,gp,gq,gpz,gqz⟩:=hF.out
 clear hF
 replace hx0:Hid (Ext _ _):=hx0
 go_wp2
 replace hx0:=hx0.out
 refine leaves_cons (f:=151) (args:=#[.pointer (some ⟨w.heap.size,0,none⟩),.pointer (some ⟨w.heap.size+1,0,none⟩)]) (by simp) (by simp [go_sem]) ?_
 refine (tr_catch w.heap.size 4 0 0 [] _ ?_ ?_ ?_ ?_).mono ?_
 ·simp [go_sem,gp]
 ·simp [go_sem,gq]
 ·simp [go_sem,gpz]
 ·simp [go_sem,gqz]
 rintro e u' w'' ⟨rfl,rfl,w3,hy,rfl⟩
 have hs1:=lt_of_cell gp
 have hs:=lt_of_cell gq
 have hp2:(w3.cell? ⟨w.heap.size,0,none⟩).isSome=true:=by rw [hy.cell _ _ (by simpa [World.setCell] using hs1)];simp [go_sem,gp]
 have hq2:(w3.cell? ⟨w.heap.size+1,0,none⟩).isSome=true:=by rw [hy.cell _ _ (by simpa [World.setCell] using hs)];simp [go_sem,gq]
 obtain⟨vp,hp2⟩:=Option.isSome_iff_exists.1 hp2
 obtain⟨vq,hq2⟩:=Option.isSome_iff_exists.1 hq2
 simp [Leaves,Go.settle,results,Tryz.results114,go_sem,hp2,hq2]
 refine ((Ext.trans ?_ hy).setCell (Nat.le_refl _) _).setCell (by show w.heap.size≤w.heap.size+1;omega) _
 exact hx0
theorem tr_part (l p sg r W P:List UInt8)(w:World)(g1:trimSuffix l [37]=p)(g2:hasSuffix l [37]=true)(hl:l.length≤20000)(h1:cutL p=sg)(h2:trimPrefix p [45]=r)(h3:cut r [46]=(W,P,true))(hr:r.length≤20000)(hW:W.length≤20000)(hP:P.length≤20000)(he:Env w)(ho:okWhole W 4=true)(hlen:(P.length:Int)≤7)(hd:digOnly P=false) :
  Calls Tryz.prog 114 #[.string ⟨l.toArray⟩] w fun e w'=>e=.returned (.tuple #[.int .i64 0,.int .i64 4])∧Ext w w':=by
 have hmf:=make_func
 replace g1:=hid g1
 replace g2:=hid g2
 replace hl:=hid hl
 replace h1:=hid h1
 replace h2:=hid h2
 replace h3:=hid h3
 replace hr:=hid hr
 replace hW:=hid hW
 replace hP:=hid hP
 replace he:=hid he
 replace ho:=hid ho
 replace hd:=hid hd
 go_enter_defers Tryz.func114,Tryz.ntmps114
 go_wp2_with fail
 refine (cutSuffix_c l p true g1.out g2.out hl.out _).mono ?_
 rintro e w1 ⟨rfl,hx⟩
 have hF:Hid (Fr w w1):=Fr.start hx
 clear hx
 go_wp2_with fail
 refine sF (needForm_okx _) hF fun w2 hF=>?_
 go_wp2_with fail
 refine sF (cutSign_x p sg r h1.out h2.out _) hF fun w2 hF=>?_
 go_wp2_with fail
 refine sF (cut_c r W P true h3.out _ hr.out (Env.ext he.out hF.out.ext)) hF fun w2 hF=>?_
 go_wp2_with fail
 refine sF (needWhole_ok W 4 _ hW.out (by omega) ho.out) hF fun w2 hF=>?_
 go_wp2_with fail
 refine sF (digitsOnly_x P false hd.out _ hP.out) hF fun w2 hF=>?_
 go_wp2_with fail
 refine sF (needForm_nox _) hF fun w2 hF=>?_
 obtain⟨hx0,gp,gq,gpz,gqz⟩:=hF.out
 clear hF
 replace hx0:Hid (Ext _ _):=hx0
 go_wp2
 replace hx0:=hx0.out
 refine leaves_cons (f:=151) (args:=#[.pointer (some ⟨w.heap.size,0,none⟩),.pointer (some ⟨w.heap.size+1,0,none⟩)]) (by simp) (by simp [go_sem]) ?_
 refine (tr_catch w.heap.size 4 0 0 [] _ ?_ ?_ ?_ ?_).mono ?_
 ·simp [go_sem,gp]
 ·simp [go_sem,gq]
 ·simp [go_sem,gpz]
 ·simp [go_sem,gqz]
 rintro e u' w'' ⟨rfl,rfl,w3,hy,rfl⟩
 have hs1:=lt_of_cell gp
 have hs:=lt_of_cell gq
 have hp2:(w3.cell? ⟨w.heap.size,0,none⟩).isSome=true:=by rw [hy.cell _ _ (by simpa [World.setCell] using hs1)];simp [go_sem,gp]
 have hq2:(w3.cell? ⟨w.heap.size+1,0,none⟩).isSome=true:=by rw [hy.cell _ _ (by simpa [World.setCell] using hs)];simp [go_sem,gq]
 obtain⟨vp,hp2⟩:=Option.isSome_iff_exists.1 hp2
 obtain⟨vq,hq2⟩:=Option.isSome_iff_exists.1 hq2
 simp [Leaves,Go.settle,results,Tryz.results114,go_sem,hp2,hq2]
 refine ((Ext.trans ?_ hy).setCell (Nat.le_refl _) _).setCell (by show w.heap.size≤w.heap.size+1;omega) _
 exact hx0
theorem tr_nought (l p sg r W P:List UInt8)(w:World)(g1:trimSuffix l [37]=p)(g2:hasSuffix l [37]=true)(hl:l.length≤20000)(h1:cutL p=sg)(h2:trimPrefix p [45]=r)(h3:cut r [46]=(W,P,true))(hr:r.length≤20000)(hW:W.length≤20000)(hP:P.length≤20000)(he:Env w)(ho:okWhole W 4=true)(hlen:(P.length:Int)≤7)(hd:digOnly P=true)(hs:hasSuffix P [48]=true) :
  Calls Tryz.prog 114 #[.string ⟨l.toArray⟩] w fun e w'=>e=.returned (.tuple #[.int .i64 0,.int .i64 4])∧Ext w w':=by
 have hmf:=make_func
 replace g1:=hid g1
 replace g2:=hid g2
 replace hl:=hid hl
 replace h1:=hid h1
 replace h2:=hid h2
 replace h3:=hid h3
 replace hr:=hid hr
 replace hW:=hid hW
 replace hP:=hid hP
 replace he:=hid he
 replace ho:=hid ho
 replace hd:=hid hd
 replace hs:=hid hs
 go_enter_defers Tryz.func114,Tryz.ntmps114
 go_wp2_with fail
 refine (cutSuffix_c l p true g1.out g2.out hl.out _).mono ?_
 rintro e w1 ⟨rfl,hx⟩
 have hF:Hid (Fr w w1):=Fr.start hx
 clear hx
 go_wp2_with fail
 refine sF (needForm_okx _) hF fun w2 hF=>?_
 go_wp2_with fail
 refine sF (cutSign_x p sg r h1.out h2.out _) hF fun w2 hF=>?_
 go_wp2_with fail
 refine sF (cut_c r W P true h3.out _ hr.out (Env.ext he.out hF.out.ext)) hF fun w2 hF=>?_
 go_wp2_with fail
 refine sF (needWhole_ok W 4 _ hW.out (by omega) ho.out) hF fun w2 hF=>?_
 go_wp2_with fail
 refine sF (digitsOnly_x P true hd.out _ hP.out) hF fun w2 hF=>?_
 go_wp2_with fail
 refine sF (hasSuffix_c P true hs.out hP.out _) hF fun w2 hF=>?_
 go_wp2_with fail
 refine sF (needForm_nox _) hF fun w2 hF=>?_
 obtain⟨hx0,gp,gq,gpz,gqz⟩:=hF.out
 clear hF
 replace hx0:Hid (Ext _ _):=hx0
 go_wp2
 replace hx0:=hx0.out
 refine leaves_cons (f:=151) (args:=#[.pointer (some ⟨w.heap.size,0,none⟩),.pointer (some ⟨w.heap.size+1,0,none⟩)]) (by simp) (by simp [go_sem]) ?_
 refine (tr_catch w.heap.size 4 0 0 [] _ ?_ ?_ ?_ ?_).mono ?_
 ·simp [go_sem,gp]
 ·simp [go_sem,gq]
 ·simp [go_sem,gpz]
 ·simp [go_sem,gqz]
 rintro e u' w'' ⟨rfl,rfl,w3,hy,rfl⟩
 have hs1:=lt_of_cell gp
 have hs:=lt_of_cell gq
 have hp2:(w3.cell? ⟨w.heap.size,0,none⟩).isSome=true:=by rw [hy.cell _ _ (by simpa [World.setCell] using hs1)];simp [go_sem,gp]
 have hq2:(w3.cell? ⟨w.heap.size+1,0,none⟩).isSome=true:=by rw [hy.cell _ _ (by simpa [World.setCell] using hs)];simp [go_sem,gq]
 obtain⟨vp,hp2⟩:=Option.isSome_iff_exists.1 hp2
 obtain⟨vq,hq2⟩:=Option.isSome_iff_exists.1 hq2
 simp [Leaves,Go.settle,results,Tryz.results114,go_sem,hp2,hq2]
 refine ((Ext.trans ?_ hy).setCell (Nat.le_refl _) _).setCell (by show w.heap.size≤w.heap.size+1;omega) _
 exact hx0
theorem tr_over_f (l p sg r W P:List UInt8)(w:World)(g1:trimSuffix l [37]=p)(g2:hasSuffix l [37]=true)(hl:l.length≤20000)(h1:cutL p=sg)(h2:trimPrefix p [45]=r)(h3:cut r [46]=(W,P,false))(hr:r.length≤20000)(hW:W.length≤20000)(hP:P.length≤20000)(he:Env w)(ho:okWhole W 4=true)(Z:List UInt8)(hz:zeros (7-(P.length:Int)).toNat=Z)(hZl:Z.length=7-P.length)(hall:(W++(P++Z)).all isD=true)(hWl:W.length≤4)(hlen:(P.length:Int)≤7)(n:Nat)(hn:valL (W++(P++Z))=n)(hnb:n≤100000000000)(hv:¬ (n:Int)≤10000000000) :
  Calls Tryz.prog 114 #[.string ⟨l.toArray⟩] w fun e w'=>e=.returned (.tuple #[.int .i64 0,.int .i64 4])∧Ext w w':=by
 have hmf:=make_func
 replace g1:=hid g1
 replace g2:=hid g2
 replace hl:=hid hl
 replace h1:=hid h1
 replace h2:=hid h2
 replace h3:=hid h3
 replace hr:=hid hr
 replace hW:=hid hW
 replace hP:=hid hP
 replace he:=hid he
 replace ho:=hid ho
 replace hz:=hid hz
 replace hZl:=hid hZl
 replace hall:=hid hall
 replace hn:=hid hn
 go_enter_defers Tryz.func114,Tryz.ntmps114
 go_wp2_with fail
 refine (cutSuffix_c l p true g1.out g2.out hl.out _).mono ?_
 rintro e w1 ⟨rfl,hx⟩
 have hF:Hid (Fr w w1):=Fr.start hx
 clear hx
 go_wp2_with fail
 refine sF (needForm_okx _) hF fun w2 hF=>?_
 go_wp2_with fail
 refine sF (cutSign_x p sg r h1.out h2.out _) hF fun w2 hF=>?_
 go_wp2_with fail
 refine sF (cut_c r W P false h3.out _ hr.out (Env.ext he.out hF.out.ext)) hF fun w2 hF=>?_
 go_wp2_with fail
 refine sF (needWhole_ok W 4 _ hW.out (by omega) ho.out) hF fun w2 hF=>?_
 have hbig:¬ 9223372036854775807<W.length+P.length:=by omega
 have hw:wrap64 (7-(P.length:Int))=7-(P.length:Int):=by unfold wrap64;omega
 go_wp2_with fail
 refine sF (noughts_x _ Z hz.out _ (by omega) (by omega)) hF fun w2 hF=>?_
 have hbig2:¬ 9223372036854775807<W.length+(P.length+Z.length):=by have:=hZl.out;omega
 have hbig3:¬ 9223372036854775807<W.length+P.length+Z.length:=by have:=hZl.out;omega
 have hv1:decide ((n:Int)≤10000000000)=false:=decide_eq_false (by omega)
 have hv2:¬ n≤10000000000:=by omega
 go_wp2_with fail
 refine sF (number_ok (W++(P++Z)) _ (by have:=hZl.out;simp;omega) hall.out n hn.out (by omega)) hF fun w2 hF=>?_
 go_wp2_with fail
 refine sF (needForm_nox _) hF fun w2 hF=>?_
 obtain⟨hx0,gp,gq,gpz,gqz⟩:=hF.out
 clear hF
 replace hx0:Hid (Ext _ _):=hx0
 go_wp2
 replace hx0:=hx0.out
 refine leaves_cons (f:=151) (args:=#[.pointer (some ⟨w.heap.size,0,none⟩),.pointer (some ⟨w.heap.size+1,0,none⟩)]) (by simp) (by simp [go_sem]) ?_
 refine (tr_catch w.heap.size 4 0 0 [] _ ?_ ?_ ?_ ?_).mono ?_
 ·simp [go_sem,gp]
 ·simp [go_sem,gq]
 ·simp [go_sem,gpz]
 ·simp [go_sem,gqz]
 rintro e u' w'' ⟨rfl,rfl,w3,hy,rfl⟩
 have hs1:=lt_of_cell gp
 have hs:=lt_of_cell gq
 have hp2:(w3.cell? ⟨w.heap.size,0,none⟩).isSome=true:=by rw [hy.cell _ _ (by simpa [World.setCell] using hs1)];simp [go_sem,gp]
 have hq2:(w3.cell? ⟨w.heap.size+1,0,none⟩).isSome=true:=by rw [hy.cell _ _ (by simpa [World.setCell] using hs)];simp [go_sem,gq]
 obtain⟨vp,hp2⟩:=Option.isSome_iff_exists.1 hp2
 obtain⟨vq,hq2⟩:=Option.isSome_iff_exists.1 hq2
 simp [Leaves,Go.settle,results,Tryz.results114,go_sem,hp2,hq2]
 refine ((Ext.trans ?_ hy).setCell (Nat.le_refl _) _).setCell (by show w.heap.size≤w.heap.size+1;omega) _
 exact hx0
theorem tr_pos_f (l p r W P:List UInt8)(w:World)(g1:trimSuffix l [37]=p)(g2:hasSuffix l [37]=true)(hl:l.length≤20000)(h1:cutL p = [])(h2:trimPrefix p [45]=r)(h3:cut r [46]=(W,P,false))(hr:r.length≤20000)(hW:W.length≤20000)(hP:P.length≤20000)(he:Env w)(ho:okWhole W 4=true)(Z:List UInt8)(hz:zeros (7-(P.length:Int)).toNat=Z)(hZl:Z.length=7-P.length)(hall:(W++(P++Z)).all isD=true)(hWl:W.length≤4)(hlen:(P.length:Int)≤7)(n:Nat)(hn:valL (W++(P++Z))=n)(hnb:n≤100000000000)(hv:(n:Int)≤10000000000) :
  Calls Tryz.prog 114 #[.string ⟨l.toArray⟩] w fun e w'=>e=.returned (.tuple #[.int .i64 (n:Int),.int .i64 0])∧Ext w w':=by
 have hmf:=make_func
 replace g1:=hid g1
 replace g2:=hid g2
 replace hl:=hid hl
 replace h1:=hid h1
 replace h2:=hid h2
 replace h3:=hid h3
 replace hr:=hid hr
 replace hW:=hid hW
 replace hP:=hid hP
 replace he:=hid he
 replace ho:=hid ho
 replace hz:=hid hz
 replace hZl:=hid hZl
 replace hall:=hid hall
 replace hn:=hid hn
 go_enter_defers Tryz.func114,Tryz.ntmps114
 go_wp2_with fail
 refine (cutSuffix_c l p true g1.out g2.out hl.out _).mono ?_
 rintro e w1 ⟨rfl,hx⟩
 have hF:Hid (Fr w w1):=Fr.start hx
 clear hx
 go_wp2_with fail
 refine sF (needForm_okx _) hF fun w2 hF=>?_
 go_wp2_with fail
 refine sF (cutSign_x p [] r h1.out h2.out _) hF fun w2 hF=>?_
 go_wp2_with fail
 refine sF (cut_c r W P false h3.out _ hr.out (Env.ext he.out hF.out.ext)) hF fun w2 hF=>?_
 go_wp2_with fail
 refine sF (needWhole_ok W 4 _ hW.out (by omega) ho.out) hF fun w2 hF=>?_
 have hbig:¬ 9223372036854775807<W.length+P.length:=by omega
 have hw:wrap64 (7-(P.length:Int))=7-(P.length:Int):=by unfold wrap64;omega
 go_wp2_with fail
 refine sF (noughts_x _ Z hz.out _ (by omega) (by omega)) hF fun w2 hF=>?_
 have hbig2:¬ 9223372036854775807<W.length+(P.length+Z.length):=by have:=hZl.out;omega
 have hbig3:¬ 9223372036854775807<W.length+P.length+Z.length:=by have:=hZl.out;omega
 go_wp2_with fail
 refine sF (number_ok (W++(P++Z)) _ (by have:=hZl.out;simp;omega) hall.out n hn.out (by omega)) hF fun w2 hF=>?_
 go_wp2_with fail
 refine sF (needForm_okx _) hF fun w2 hF=>?_
 go_wp2_with fail
 refine sF (signed_posx _ _) hF fun w2 hF=>?_
 obtain⟨hx0,gp,gq,gpz,gqz⟩:=hF.out
 clear hF
 replace hx0:Hid (Ext _ _):=hx0
 go_wp2
 replace hx0:=hx0.out
 refine leaves_cons (f:=151) (args:=#[.pointer (some ⟨w.heap.size,0,none⟩),.pointer (some ⟨w.heap.size+1,0,none⟩)]) (by simp) (by simp [go_sem]) ?_
 refine (tr_idle w.heap.size ((n:Int)) 0 _ ?_ ?_ ?_ ?_).mono ?_
 ·simp [go_sem,gp]
 ·simp [go_sem,gq]
 ·simp [go_sem,gpz]
 ·simp [go_sem,gqz]
 rintro e u' w'' ⟨rfl,rfl,w3,hy,rfl⟩
 have hs1:=lt_of_cell gp
 have hs:=lt_of_cell gq
 have hp2:(w3.cell? ⟨w.heap.size,0,none⟩).isSome=true:=by rw [hy.cell _ _ (by simpa [World.setCell] using hs1)];simp [go_sem,gp]
 have hq2:(w3.cell? ⟨w.heap.size+1,0,none⟩).isSome=true:=by rw [hy.cell _ _ (by simpa [World.setCell] using hs)];simp [go_sem,gq]
 obtain⟨vp,hp2⟩:=Option.isSome_iff_exists.1 hp2
 obtain⟨vq,hq2⟩:=Option.isSome_iff_exists.1 hq2
 simp [Leaves,Go.settle,results,Tryz.results114,go_sem,hp2,hq2]
 refine ((Ext.trans ?_ hy).setCell (Nat.le_refl _) _).setCell (by show w.heap.size≤w.heap.size+1;omega) _
 exact (hx0.setCell (Nat.le_refl _) _).setCell (by show w.heap.size≤w.heap.size+1;omega) _
theorem tr_neg_f (l p r W P:List UInt8)(w:World)(g1:trimSuffix l [37]=p)(g2:hasSuffix l [37]=true)(hl:l.length≤20000)(h1:cutL p = [45])(h2:trimPrefix p [45]=r)(h3:cut r [46]=(W,P,false))(hr:r.length≤20000)(hW:W.length≤20000)(hP:P.length≤20000)(he:Env w)(ho:okWhole W 4=true)(Z:List UInt8)(hz:zeros (7-(P.length:Int)).toNat=Z)(hZl:Z.length=7-P.length)(hall:(W++(P++Z)).all isD=true)(hWl:W.length≤4)(hlen:(P.length:Int)≤7)(n:Nat)(hn:valL (W++(P++Z))=n)(hnb:n≤100000000000)(hv:(n:Int)≤10000000000)(hn0:0<n) :
  Calls Tryz.prog 114 #[.string ⟨l.toArray⟩] w fun e w'=>e=.returned (.tuple #[.int .i64 (-(n:Int)),.int .i64 0])∧Ext w w':=by
 have hmf:=make_func
 replace g1:=hid g1
 replace g2:=hid g2
 replace hl:=hid hl
 replace h1:=hid h1
 replace h2:=hid h2
 replace h3:=hid h3
 replace hr:=hid hr
 replace hW:=hid hW
 replace hP:=hid hP
 replace he:=hid he
 replace ho:=hid ho
 replace hz:=hid hz
 replace hZl:=hid hZl
 replace hall:=hid hall
 replace hn:=hid hn
 replace hn0:=hid hn0
 go_enter_defers Tryz.func114,Tryz.ntmps114
 go_wp2_with fail
 refine (cutSuffix_c l p true g1.out g2.out hl.out _).mono ?_
 rintro e w1 ⟨rfl,hx⟩
 have hF:Hid (Fr w w1):=Fr.start hx
 clear hx
 go_wp2_with fail
 refine sF (needForm_okx _) hF fun w2 hF=>?_
 go_wp2_with fail
 refine sF (cutSign_x p [45] r h1.out h2.out _) hF fun w2 hF=>?_
 go_wp2_with fail
 refine sF (cut_c r W P false h3.out _ hr.out (Env.ext he.out hF.out.ext)) hF fun w2 hF=>?_
 go_wp2_with fail
 refine sF (needWhole_ok W 4 _ hW.out (by omega) ho.out) hF fun w2 hF=>?_
 have hbig:¬ 9223372036854775807<W.length+P.length:=by omega
 have hw:wrap64 (7-(P.length:Int))=7-(P.length:Int):=by unfold wrap64;omega
 go_wp2_with fail
 refine sF (noughts_x _ Z hz.out _ (by omega) (by omega)) hF fun w2 hF=>?_
 have hbig2:¬ 9223372036854775807<W.length+(P.length+Z.length):=by have:=hZl.out;omega
 have hbig3:¬ 9223372036854775807<W.length+P.length+Z.length:=by have:=hZl.out;omega
 go_wp2_with fail
 refine sF (number_ok (W++(P++Z)) _ (by have:=hZl.out;simp;omega) hall.out n hn.out (by omega)) hF fun w2 hF=>?_
 go_wp2_with fail
 refine sF (needForm_okx _) hF fun w2 hF=>?_
 go_wp2_with fail
 refine sF (signed_negx (n:Int) _ (by have:=hn0.out;omega) (by omega)) hF fun w2 hF=>?_
 obtain⟨hx0,gp,gq,gpz,gqz⟩:=hF.out
 clear hF
 replace hx0:Hid (Ext _ _):=hx0
 go_wp2
 replace hx0:=hx0.out
 refine leaves_cons (f:=151) (args:=#[.pointer (some ⟨w.heap.size,0,none⟩),.pointer (some ⟨w.heap.size+1,0,none⟩)]) (by simp) (by simp [go_sem]) ?_
 refine (tr_idle w.heap.size ((-(n:Int))) 0 _ ?_ ?_ ?_ ?_).mono ?_
 ·simp [go_sem,gp]
 ·simp [go_sem,gq]
 ·simp [go_sem,gpz]
 ·simp [go_sem,gqz]
 rintro e u' w'' ⟨rfl,rfl,w3,hy,rfl⟩
 have hs1:=lt_of_cell gp
 have hs:=lt_of_cell gq
 have hp2:(w3.cell? ⟨w.heap.size,0,none⟩).isSome=true:=by rw [hy.cell _ _ (by simpa [World.setCell] using hs1)];simp [go_sem,gp]
 have hq2:(w3.cell? ⟨w.heap.size+1,0,none⟩).isSome=true:=by rw [hy.cell _ _ (by simpa [World.setCell] using hs)];simp [go_sem,gq]
 obtain⟨vp,hp2⟩:=Option.isSome_iff_exists.1 hp2
 obtain⟨vq,hq2⟩:=Option.isSome_iff_exists.1 hq2
 simp [Leaves,Go.settle,results,Tryz.results114,go_sem,hp2,hq2]
 refine ((Ext.trans ?_ hy).setCell (Nat.le_refl _) _).setCell (by show w.heap.size≤w.heap.size+1;omega) _
 exact (hx0.setCell (Nat.le_refl _) _).setCell (by show w.heap.size≤w.heap.size+1;omega) _
theorem tr_nil_f (l p r W P:List UInt8)(w:World)(g1:trimSuffix l [37]=p)(g2:hasSuffix l [37]=true)(hl:l.length≤20000)(h1:cutL p = [45])(h2:trimPrefix p [45]=r)(h3:cut r [46]=(W,P,false))(hr:r.length≤20000)(hW:W.length≤20000)(hP:P.length≤20000)(he:Env w)(ho:okWhole W 4=true)(Z:List UInt8)(hz:zeros (7-(P.length:Int)).toNat=Z)(hZl:Z.length=7-P.length)(hall:(W++(P++Z)).all isD=true)(hWl:W.length≤4)(hlen:(P.length:Int)≤7)(hn:valL (W++(P++Z))=0) :
  Calls Tryz.prog 114 #[.string ⟨l.toArray⟩] w fun e w'=>e=.returned (.tuple #[.int .i64 0,.int .i64 4])∧Ext w w':=by
 have hmf:=make_func
 replace g1:=hid g1
 replace g2:=hid g2
 replace hl:=hid hl
 replace h1:=hid h1
 replace h2:=hid h2
 replace h3:=hid h3
 replace hr:=hid hr
 replace hW:=hid hW
 replace hP:=hid hP
 replace he:=hid he
 replace ho:=hid ho
 replace hz:=hid hz
 replace hZl:=hid hZl
 replace hall:=hid hall
 replace hn:=hid hn
 go_enter_defers Tryz.func114,Tryz.ntmps114
 go_wp2_with fail
 refine (cutSuffix_c l p true g1.out g2.out hl.out _).mono ?_
 rintro e w1 ⟨rfl,hx⟩
 have hF:Hid (Fr w w1):=Fr.start hx
 clear hx
 go_wp2_with fail
 refine sF (needForm_okx _) hF fun w2 hF=>?_
 go_wp2_with fail
 refine sF (cutSign_x p [45] r h1.out h2.out _) hF fun w2 hF=>?_
 go_wp2_with fail
 refine sF (cut_c r W P false h3.out _ hr.out (Env.ext he.out hF.out.ext)) hF fun w2 hF=>?_
 go_wp2_with fail
 refine sF (needWhole_ok W 4 _ hW.out (by omega) ho.out) hF fun w2 hF=>?_
 have hbig:¬ 9223372036854775807<W.length+P.length:=by omega
 have hw:wrap64 (7-(P.length:Int))=7-(P.length:Int):=by unfold wrap64;omega
 go_wp2_with fail
 refine sF (noughts_x _ Z hz.out _ (by omega) (by omega)) hF fun w2 hF=>?_
 have hbig2:¬ 9223372036854775807<W.length+(P.length+Z.length):=by have:=hZl.out;omega
 have hbig3:¬ 9223372036854775807<W.length+P.length+Z.length:=by have:=hZl.out;omega
 go_wp2_with fail
 refine sF (number_ok (W++(P++Z)) _ (by have:=hZl.out;simp;omega) hall.out 0 hn.out (by omega)) hF fun w2 hF=>?_
 go_wp2_with fail
 refine sF (needForm_okx _) hF fun w2 hF=>?_
 go_wp2_with fail
 refine sF (signed_nilx _) hF fun w2 hF=>?_
 obtain⟨hx0,gp,gq,gpz,gqz⟩:=hF.out
 clear hF
 replace hx0:Hid (Ext _ _):=hx0
 go_wp2
 replace hx0:=hx0.out
 refine leaves_cons (f:=151) (args:=#[.pointer (some ⟨w.heap.size,0,none⟩),.pointer (some ⟨w.heap.size+1,0,none⟩)]) (by simp) (by simp [go_sem]) ?_
 refine (tr_catch w.heap.size 4 0 0 [] _ ?_ ?_ ?_ ?_).mono ?_
 ·simp [go_sem,gp]
 ·simp [go_sem,gq]
 ·simp [go_sem,gpz]
 ·simp [go_sem,gqz]
 rintro e u' w'' ⟨rfl,rfl,w3,hy,rfl⟩
 have hs1:=lt_of_cell gp
 have hs:=lt_of_cell gq
 have hp2:(w3.cell? ⟨w.heap.size,0,none⟩).isSome=true:=by rw [hy.cell _ _ (by simpa [World.setCell] using hs1)];simp [go_sem,gp]
 have hq2:(w3.cell? ⟨w.heap.size+1,0,none⟩).isSome=true:=by rw [hy.cell _ _ (by simpa [World.setCell] using hs)];simp [go_sem,gq]
 obtain⟨vp,hp2⟩:=Option.isSome_iff_exists.1 hp2
 obtain⟨vq,hq2⟩:=Option.isSome_iff_exists.1 hq2
 simp [Leaves,Go.settle,results,Tryz.results114,go_sem,hp2,hq2]
 refine ((Ext.trans ?_ hy).setCell (Nat.le_refl _) _).setCell (by show w.heap.size≤w.heap.size+1;omega) _
 exact hx0
theorem tr_over_t (l p sg r W P:List UInt8)(w:World)(g1:trimSuffix l [37]=p)(g2:hasSuffix l [37]=true)(hl:l.length≤20000)(h1:cutL p=sg)(h2:trimPrefix p [45]=r)(h3:cut r [46]=(W,P,true))(hr:r.length≤20000)(hW:W.length≤20000)(hP:P.length≤20000)(he:Env w)(ho:okWhole W 4=true)(hd:digOnly P=true)(hs:hasSuffix P [48]=false)(Z:List UInt8)(hz:zeros (7-(P.length:Int)).toNat=Z)(hZl:Z.length=7-P.length)(hall:(W++(P++Z)).all isD=true)(hWl:W.length≤4)(hlen:(P.length:Int)≤7)(n:Nat)(hn:valL (W++(P++Z))=n)(hnb:n≤100000000000)(hv:¬ (n:Int)≤10000000000) :
  Calls Tryz.prog 114 #[.string ⟨l.toArray⟩] w fun e w'=>e=.returned (.tuple #[.int .i64 0,.int .i64 4])∧Ext w w':=by
 have hmf:=make_func
 replace g1:=hid g1
 replace g2:=hid g2
 replace hl:=hid hl
 replace h1:=hid h1
 replace h2:=hid h2
 replace h3:=hid h3
 replace hr:=hid hr
 replace hW:=hid hW
 replace hP:=hid hP
 replace he:=hid he
 replace ho:=hid ho
 replace hd:=hid hd
 replace hs:=hid hs
 replace hz:=hid hz
 replace hZl:=hid hZl
 replace hall:=hid hall
 replace hn:=hid hn
 go_enter_defers Tryz.func114,Tryz.ntmps114
 go_wp2_with fail
 refine (cutSuffix_c l p true g1.out g2.out hl.out _).mono ?_
 rintro e w1 ⟨rfl,hx⟩
 have hF:Hid (Fr w w1):=Fr.start hx
 clear hx
 go_wp2_with fail
 refine sF (needForm_okx _) hF fun w2 hF=>?_
 go_wp2_with fail
 refine sF (cutSign_x p sg r h1.out h2.out _) hF fun w2 hF=>?_
 go_wp2_with fail
 refine sF (cut_c r W P true h3.out _ hr.out (Env.ext he.out hF.out.ext)) hF fun w2 hF=>?_
 go_wp2_with fail
 refine sF (needWhole_ok W 4 _ hW.out (by omega) ho.out) hF fun w2 hF=>?_
 go_wp2_with fail
 refine sF (digitsOnly_x P true hd.out _ hP.out) hF fun w2 hF=>?_
 go_wp2_with fail
 refine sF (hasSuffix_c P false hs.out hP.out _) hF fun w2 hF=>?_
 go_wp2_with fail
 refine sF (needForm_okx _) hF fun w2 hF=>?_
 have hbig:¬ 9223372036854775807<W.length+P.length:=by omega
 have hw:wrap64 (7-(P.length:Int))=7-(P.length:Int):=by unfold wrap64;omega
 go_wp2_with fail
 refine sF (noughts_x _ Z hz.out _ (by omega) (by omega)) hF fun w2 hF=>?_
 have hbig2:¬ 9223372036854775807<W.length+(P.length+Z.length):=by have:=hZl.out;omega
 have hbig3:¬ 9223372036854775807<W.length+P.length+Z.length:=by have:=hZl.out;omega
 have hv1:decide ((n:Int)≤10000000000)=false:=decide_eq_false (by omega)
 have hv2:¬ n≤10000000000:=by omega
 go_wp2_with fail
 refine sF (number_ok (W++(P++Z)) _ (by have:=hZl.out;simp;omega) hall.out n hn.out (by omega)) hF fun w2 hF=>?_
 go_wp2_with fail
 refine sF (needForm_nox _) hF fun w2 hF=>?_
 obtain⟨hx0,gp,gq,gpz,gqz⟩:=hF.out
 clear hF
 replace hx0:Hid (Ext _ _):=hx0
 go_wp2
 replace hx0:=hx0.out
 refine leaves_cons (f:=151) (args:=#[.pointer (some ⟨w.heap.size,0,none⟩),.pointer (some ⟨w.heap.size+1,0,none⟩)]) (by simp) (by simp [go_sem]) ?_
 refine (tr_catch w.heap.size 4 0 0 [] _ ?_ ?_ ?_ ?_).mono ?_
 ·simp [go_sem,gp]
 ·simp [go_sem,gq]
 ·simp [go_sem,gpz]
 ·simp [go_sem,gqz]
 rintro e u' w'' ⟨rfl,rfl,w3,hy,rfl⟩
 have hs1:=lt_of_cell gp
 have hs:=lt_of_cell gq
 have hp2:(w3.cell? ⟨w.heap.size,0,none⟩).isSome=true:=by rw [hy.cell _ _ (by simpa [World.setCell] using hs1)];simp [go_sem,gp]
 have hq2:(w3.cell? ⟨w.heap.size+1,0,none⟩).isSome=true:=by rw [hy.cell _ _ (by simpa [World.setCell] using hs)];simp [go_sem,gq]
 obtain⟨vp,hp2⟩:=Option.isSome_iff_exists.1 hp2
 obtain⟨vq,hq2⟩:=Option.isSome_iff_exists.1 hq2
 simp [Leaves,Go.settle,results,Tryz.results114,go_sem,hp2,hq2]
 refine ((Ext.trans ?_ hy).setCell (Nat.le_refl _) _).setCell (by show w.heap.size≤w.heap.size+1;omega) _
 exact hx0
theorem tr_pos_t (l p r W P:List UInt8)(w:World)(g1:trimSuffix l [37]=p)(g2:hasSuffix l [37]=true)(hl:l.length≤20000)(h1:cutL p = [])(h2:trimPrefix p [45]=r)(h3:cut r [46]=(W,P,true))(hr:r.length≤20000)(hW:W.length≤20000)(hP:P.length≤20000)(he:Env w)(ho:okWhole W 4=true)(hd:digOnly P=true)(hs:hasSuffix P [48]=false)(Z:List UInt8)(hz:zeros (7-(P.length:Int)).toNat=Z)(hZl:Z.length=7-P.length)(hall:(W++(P++Z)).all isD=true)(hWl:W.length≤4)(hlen:(P.length:Int)≤7)(n:Nat)(hn:valL (W++(P++Z))=n)(hnb:n≤100000000000)(hv:(n:Int)≤10000000000) :
  Calls Tryz.prog 114 #[.string ⟨l.toArray⟩] w fun e w'=>e=.returned (.tuple #[.int .i64 (n:Int),.int .i64 0])∧Ext w w':=by
 have hmf:=make_func
 replace g1:=hid g1
 replace g2:=hid g2
 replace hl:=hid hl
 replace h1:=hid h1
 replace h2:=hid h2
 replace h3:=hid h3
 replace hr:=hid hr
 replace hW:=hid hW
 replace hP:=hid hP
 replace he:=hid he
 replace ho:=hid ho
 replace hd:=hid hd
 replace hs:=hid hs
 replace hz:=hid hz
 replace hZl:=hid hZl
 replace hall:=hid hall
 replace hn:=hid hn
 go_enter_defers Tryz.func114,Tryz.ntmps114
 go_wp2_with fail
 refine (cutSuffix_c l p true g1.out g2.out hl.out _).mono ?_
 rintro e w1 ⟨rfl,hx⟩
 have hF:Hid (Fr w w1):=Fr.start hx
 clear hx
 go_wp2_with fail
 refine sF (needForm_okx _) hF fun w2 hF=>?_
 go_wp2_with fail
 refine sF (cutSign_x p [] r h1.out h2.out _) hF fun w2 hF=>?_
 go_wp2_with fail
 refine sF (cut_c r W P true h3.out _ hr.out (Env.ext he.out hF.out.ext)) hF fun w2 hF=>?_
 go_wp2_with fail
 refine sF (needWhole_ok W 4 _ hW.out (by omega) ho.out) hF fun w2 hF=>?_
 go_wp2_with fail
 refine sF (digitsOnly_x P true hd.out _ hP.out) hF fun w2 hF=>?_
 go_wp2_with fail
 refine sF (hasSuffix_c P false hs.out hP.out _) hF fun w2 hF=>?_
 go_wp2_with fail
 refine sF (needForm_okx _) hF fun w2 hF=>?_
 have hbig:¬ 9223372036854775807<W.length+P.length:=by omega
 have hw:wrap64 (7-(P.length:Int))=7-(P.length:Int):=by unfold wrap64;omega
 go_wp2_with fail
 refine sF (noughts_x _ Z hz.out _ (by omega) (by omega)) hF fun w2 hF=>?_
 have hbig2:¬ 9223372036854775807<W.length+(P.length+Z.length):=by have:=hZl.out;omega
 have hbig3:¬ 9223372036854775807<W.length+P.length+Z.length:=by have:=hZl.out;omega
 go_wp2_with fail
 refine sF (number_ok (W++(P++Z)) _ (by have:=hZl.out;simp;omega) hall.out n hn.out (by omega)) hF fun w2 hF=>?_
 go_wp2_with fail
 refine sF (needForm_okx _) hF fun w2 hF=>?_
 go_wp2_with fail
 refine sF (signed_posx _ _) hF fun w2 hF=>?_
 obtain⟨hx0,gp,gq,gpz,gqz⟩:=hF.out
 clear hF
 replace hx0:Hid (Ext _ _):=hx0
 go_wp2
 replace hx0:=hx0.out
 refine leaves_cons (f:=151) (args:=#[.pointer (some ⟨w.heap.size,0,none⟩),.pointer (some ⟨w.heap.size+1,0,none⟩)]) (by simp) (by simp [go_sem]) ?_
 refine (tr_idle w.heap.size ((n:Int)) 0 _ ?_ ?_ ?_ ?_).mono ?_
 ·simp [go_sem,gp]
 ·simp [go_sem,gq]
 ·simp [go_sem,gpz]
 ·simp [go_sem,gqz]
 rintro e u' w'' ⟨rfl,rfl,w3,hy,rfl⟩
 have hs1:=lt_of_cell gp
 have hs:=lt_of_cell gq
 have hp2:(w3.cell? ⟨w.heap.size,0,none⟩).isSome=true:=by rw [hy.cell _ _ (by simpa [World.setCell] using hs1)];simp [go_sem,gp]
 have hq2:(w3.cell? ⟨w.heap.size+1,0,none⟩).isSome=true:=by rw [hy.cell _ _ (by simpa [World.setCell] using hs)];simp [go_sem,gq]
 obtain⟨vp,hp2⟩:=Option.isSome_iff_exists.1 hp2
 obtain⟨vq,hq2⟩:=Option.isSome_iff_exists.1 hq2
 simp [Leaves,Go.settle,results,Tryz.results114,go_sem,hp2,hq2]
 refine ((Ext.trans ?_ hy).setCell (Nat.le_refl _) _).setCell (by show w.heap.size≤w.heap.size+1;omega) _
 exact (hx0.setCell (Nat.le_refl _) _).setCell (by show w.heap.size≤w.heap.size+1;omega) _
theorem tr_neg_t (l p r W P:List UInt8)(w:World)(g1:trimSuffix l [37]=p)(g2:hasSuffix l [37]=true)(hl:l.length≤20000)(h1:cutL p = [45])(h2:trimPrefix p [45]=r)(h3:cut r [46]=(W,P,true))(hr:r.length≤20000)(hW:W.length≤20000)(hP:P.length≤20000)(he:Env w)(ho:okWhole W 4=true)(hd:digOnly P=true)(hs:hasSuffix P [48]=false)(Z:List UInt8)(hz:zeros (7-(P.length:Int)).toNat=Z)(hZl:Z.length=7-P.length)(hall:(W++(P++Z)).all isD=true)(hWl:W.length≤4)(hlen:(P.length:Int)≤7)(n:Nat)(hn:valL (W++(P++Z))=n)(hnb:n≤100000000000)(hv:(n:Int)≤10000000000)(hn0:0<n) :
  Calls Tryz.prog 114 #[.string ⟨l.toArray⟩] w fun e w'=>e=.returned (.tuple #[.int .i64 (-(n:Int)),.int .i64 0])∧Ext w w':=by
 have hmf:=make_func
 replace g1:=hid g1
 replace g2:=hid g2
 replace hl:=hid hl
 replace h1:=hid h1
 replace h2:=hid h2
 replace h3:=hid h3
 replace hr:=hid hr
 replace hW:=hid hW
 replace hP:=hid hP
 replace he:=hid he
 replace ho:=hid ho
 replace hd:=hid hd
 replace hs:=hid hs
 replace hz:=hid hz
 replace hZl:=hid hZl
 replace hall:=hid hall
 replace hn:=hid hn
 replace hn0:=hid hn0
 go_enter_defers Tryz.func114,Tryz.ntmps114
 go_wp2_with fail
 refine (cutSuffix_c l p true g1.out g2.out hl.out _).mono ?_
 rintro e w1 ⟨rfl,hx⟩
 have hF:Hid (Fr w w1):=Fr.start hx
 clear hx
 go_wp2_with fail
 refine sF (needForm_okx _) hF fun w2 hF=>?_
 go_wp2_with fail
 refine sF (cutSign_x p [45] r h1.out h2.out _) hF fun w2 hF=>?_
 go_wp2_with fail
 refine sF (cut_c r W P true h3.out _ hr.out (Env.ext he.out hF.out.ext)) hF fun w2 hF=>?_
 go_wp2_with fail
 refine sF (needWhole_ok W 4 _ hW.out (by omega) ho.out) hF fun w2 hF=>?_
 go_wp2_with fail
 refine sF (digitsOnly_x P true hd.out _ hP.out) hF fun w2 hF=>?_
 go_wp2_with fail
 refine sF (hasSuffix_c P false hs.out hP.out _) hF fun w2 hF=>?_
 go_wp2_with fail
 refine sF (needForm_okx _) hF fun w2 hF=>?_
 have hbig:¬ 9223372036854775807<W.length+P.length:=by omega
 have hw:wrap64 (7-(P.length:Int))=7-(P.length:Int):=by unfold wrap64;omega
 go_wp2_with fail
 refine sF (noughts_x _ Z hz.out _ (by omega) (by omega)) hF fun w2 hF=>?_
 have hbig2:¬ 9223372036854775807<W.length+(P.length+Z.length):=by have:=hZl.out;omega
 have hbig3:¬ 9223372036854775807<W.length+P.length+Z.length:=by have:=hZl.out;omega
 go_wp2_with fail
 refine sF (number_ok (W++(P++Z)) _ (by have:=hZl.out;simp;omega) hall.out n hn.out (by omega)) hF fun w2 hF=>?_
 go_wp2_with fail
 refine sF (needForm_okx _) hF fun w2 hF=>?_
 go_wp2_with fail
 refine sF (signed_negx (n:Int) _ (by have:=hn0.out;omega) (by omega)) hF fun w2 hF=>?_
 obtain⟨hx0,gp,gq,gpz,gqz⟩:=hF.out
 clear hF
 replace hx0:Hid (Ext _ _):=hx0
 go_wp2
 replace hx0:=hx0.out
 refine leaves_cons (f:=151) (args:=#[.pointer (some ⟨w.heap.size,0,none⟩),.pointer (some ⟨w.heap.size+1,0,none⟩)]) (by simp) (by simp [go_sem]) ?_
 refine (tr_idle w.heap.size ((-(n:Int))) 0 _ ?_ ?_ ?_ ?_).mono ?_
 ·simp [go_sem,gp]
 ·simp [go_sem,gq]
 ·simp [go_sem,gpz]
 ·simp [go_sem,gqz]
 rintro e u' w'' ⟨rfl,rfl,w3,hy,rfl⟩
 have hs1:=lt_of_cell gp
 have hs:=lt_of_cell gq
 have hp2:(w3.cell? ⟨w.heap.size,0,none⟩).isSome=true:=by rw [hy.cell _ _ (by simpa [World.setCell] using hs1)];simp [go_sem,gp]
 have hq2:(w3.cell? ⟨w.heap.size+1,0,none⟩).isSome=true:=by rw [hy.cell _ _ (by simpa [World.setCell] using hs)];simp [go_sem,gq]
 obtain⟨vp,hp2⟩:=Option.isSome_iff_exists.1 hp2
 obtain⟨vq,hq2⟩:=Option.isSome_iff_exists.1 hq2
 simp [Leaves,Go.settle,results,Tryz.results114,go_sem,hp2,hq2]
 refine ((Ext.trans ?_ hy).setCell (Nat.le_refl _) _).setCell (by show w.heap.size≤w.heap.size+1;omega) _
 exact (hx0.setCell (Nat.le_refl _) _).setCell (by show w.heap.size≤w.heap.size+1;omega) _
theorem tr_nil_t (l p r W P:List UInt8)(w:World)(g1:trimSuffix l [37]=p)(g2:hasSuffix l [37]=true)(hl:l.length≤20000)(h1:cutL p = [45])(h2:trimPrefix p [45]=r)(h3:cut r [46]=(W,P,true))(hr:r.length≤20000)(hW:W.length≤20000)(hP:P.length≤20000)(he:Env w)(ho:okWhole W 4=true)(hd:digOnly P=true)(hs:hasSuffix P [48]=false)(Z:List UInt8)(hz:zeros (7-(P.length:Int)).toNat=Z)(hZl:Z.length=7-P.length)(hall:(W++(P++Z)).all isD=true)(hWl:W.length≤4)(hlen:(P.length:Int)≤7)(hn:valL (W++(P++Z))=0) :
  Calls Tryz.prog 114 #[.string ⟨l.toArray⟩] w fun e w'=>e=.returned (.tuple #[.int .i64 0,.int .i64 4])∧Ext w w':=by
 have hmf:=make_func
 replace g1:=hid g1
 replace g2:=hid g2
 replace hl:=hid hl
 replace h1:=hid h1
 replace h2:=hid h2
 replace h3:=hid h3
 replace hr:=hid hr
 replace hW:=hid hW
 replace hP:=hid hP
 replace he:=hid he
 replace ho:=hid ho
 replace hd:=hid hd
 replace hs:=hid hs
 replace hz:=hid hz
 replace hZl:=hid hZl
 replace hall:=hid hall
 replace hn:=hid hn
 go_enter_defers Tryz.func114,Tryz.ntmps114
 go_wp2_with fail
 refine (cutSuffix_c l p true g1.out g2.out hl.out _).mono ?_
 rintro e w1 ⟨rfl,hx⟩
 have hF:Hid (Fr w w1):=Fr.start hx
 clear hx
 go_wp2_with fail
 refine sF (needForm_okx _) hF fun w2 hF=>?_
 go_wp2_with fail
 refine sF (cutSign_x p [45] r h1.out h2.out _) hF fun w2 hF=>?_
 go_wp2_with fail
 refine sF (cut_c r W P true h3.out _ hr.out (Env.ext he.out hF.out.ext)) hF fun w2 hF=>?_
 go_wp2_with fail
 refine sF (needWhole_ok W 4 _ hW.out (by omega) ho.out) hF fun w2 hF=>?_
 go_wp2_with fail
 refine sF (digitsOnly_x P true hd.out _ hP.out) hF fun w2 hF=>?_
 go_wp2_with fail
 refine sF (hasSuffix_c P false hs.out hP.out _) hF fun w2 hF=>?_
 go_wp2_with fail
 refine sF (needForm_okx _) hF fun w2 hF=>?_
 have hbig:¬ 9223372036854775807<W.length+P.length:=by omega
 have hw:wrap64 (7-(P.length:Int))=7-(P.length:Int):=by unfold wrap64;omega
 go_wp2_with fail
 refine sF (noughts_x _ Z hz.out _ (by omega) (by omega)) hF fun w2 hF=>?_
 have hbig2:¬ 9223372036854775807<W.length+(P.length+Z.length):=by have:=hZl.out;omega
 have hbig3:¬ 9223372036854775807<W.length+P.length+Z.length:=by have:=hZl.out;omega
 go_wp2_with fail
 refine sF (number_ok (W++(P++Z)) _ (by have:=hZl.out;simp;omega) hall.out 0 hn.out (by omega)) hF fun w2 hF=>?_
 go_wp2_with fail
 refine sF (needForm_okx _) hF fun w2 hF=>?_
 go_wp2_with fail
 refine sF (signed_nilx _) hF fun w2 hF=>?_
 obtain⟨hx0,gp,gq,gpz,gqz⟩:=hF.out
 clear hF
 replace hx0:Hid (Ext _ _):=hx0
 go_wp2
 replace hx0:=hx0.out
 refine leaves_cons (f:=151) (args:=#[.pointer (some ⟨w.heap.size,0,none⟩),.pointer (some ⟨w.heap.size+1,0,none⟩)]) (by simp) (by simp [go_sem]) ?_
 refine (tr_catch w.heap.size 4 0 0 [] _ ?_ ?_ ?_ ?_).mono ?_
 ·simp [go_sem,gp]
 ·simp [go_sem,gq]
 ·simp [go_sem,gpz]
 ·simp [go_sem,gqz]
 rintro e u' w'' ⟨rfl,rfl,w3,hy,rfl⟩
 have hs1:=lt_of_cell gp
 have hs:=lt_of_cell gq
 have hp2:(w3.cell? ⟨w.heap.size,0,none⟩).isSome=true:=by rw [hy.cell _ _ (by simpa [World.setCell] using hs1)];simp [go_sem,gp]
 have hq2:(w3.cell? ⟨w.heap.size+1,0,none⟩).isSome=true:=by rw [hy.cell _ _ (by simpa [World.setCell] using hs)];simp [go_sem,gq]
 obtain⟨vp,hp2⟩:=Option.isSome_iff_exists.1 hp2
 obtain⟨vq,hq2⟩:=Option.isSome_iff_exists.1 hq2
 simp [Leaves,Go.settle,results,Tryz.results114,go_sem,hp2,hq2]
 refine ((Ext.trans ?_ hy).setCell (Nat.le_refl _) _).setCell (by show w.heap.size≤w.heap.size+1;omega) _
 exact hx0
theorem takeMoney_c (l:List UInt8)(w:World)(hl:l.length≤20000)(he:Env w) :
  Calls Tryz.prog 115 #[.string ⟨l.toArray⟩] w fun e w'=>e=.returned (.tuple #[.int .i64 (takeM l).1,.int .i64 (takeM l).2])∧Ext w w':=by
 rcases hcd:cutD (trimPrefix l [45]) with ⟨W,P,B⟩
 have h3:cut (trimPrefix l [45]) [46]=(W,P,B):=(cut_dot _).trans hcd
 have hr:(trimPrefix l [45]).length≤20000:=Nat.le_trans (Lib.trimPrefix_le _ _) hl
 obtain⟨hW,hP⟩:=cutD_len _ _ _ _ hcd
 replace hW:=Nat.le_trans hW hr
 replace hP:=Nat.le_trans hP hr
 unfold takeM
 rw [hcd]
 dsimp only
 cases ho:okWhole W 20
 ·exact tm_whole l _ _ W P B w rfl rfl h3 hr hW hP he ho
 ·obtain ⟨o1,o2,o3,o4⟩:=okWhole_spec W 20 ho
  by_cases hl2:P.length=2
  ·cases hd:digOnly P
   ·simpa [hl2] using tm_part l _ _ W P B w rfl rfl h3 hr hW hP he ho hl2 hd
   ·have hPa:P.all isD=true:=by unfold digOnly at hd;simp only [Bool.and_eq_true] at hd;exact hd.2
    have hall:(W++P).all isD=true:=by rw [List.all_append,o3,hPa];rfl
    simp only [hl2,decide_true,Bool.and_self,if_true]
    by_cases hv:valL (W++P)≤1000000000000000
    ·rw [if_pos hv]
     unfold sgnV
     cases hp:hasPrefix l [45]
     ·have hc:cutL l = []:=by unfold cutL;rw [hp];rfl
      exact tm_pos l _ W P B w hc rfl h3 hr hW hP he ho hl2 hd o1 hall _ rfl hv
     ·have hc:cutL l = [45]:=by unfold cutL;rw [hp];rfl
      by_cases h0:valL (W++P)=0
      ·simp only [h0,if_true]
       exact tm_nil l _ W P B w hc rfl h3 hr hW hP he ho hl2 hd o1 hall h0
      ·simp only [if_true,h0,if_false]
       exact tm_neg l _ W P B w hc rfl h3 hr hW hP he ho hl2 hd o1 hall _ rfl hv (by omega)
    ·rw [if_neg hv]
     exact tm_range l _ _ W P B w rfl rfl h3 hr hW hP he ho hl2 hd o1 hall (by omega)
  ·have hne:((P.length:Int)==2)=false:=by simp;omega
   simpa [hl2] using tm_len l _ _ W P B w rfl rfl h3 hr hW hP he ho hne
theorem takeRate_c (l:List UInt8)(w:World)(hl:l.length≤20000)(he:Env w) :
  Calls Tryz.prog 114 #[.string ⟨l.toArray⟩] w fun e w'=>e=.returned (.tuple #[.int .i64 (takeR l).1,.int .i64 (takeR l).2])∧Ext w w':=by
 cases hf:hasSuffix l [37]
 ·have:=tr_form l _ w rfl hf hl
  unfold takeR
  simpa [hf] using this
 ·generalize hp:trimSuffix l [37]=p
  have hpl:p.length≤20000:=by rw [←hp];exact Nat.le_trans (Lib.trimSuffix_le _ _) hl
  rcases hcd:cutD (trimPrefix p [45]) with ⟨W,P,B⟩
  have h3:cut (trimPrefix p [45]) [46]=(W,P,B):=(cut_dot _).trans hcd
  have hr:(trimPrefix p [45]).length≤20000:=Nat.le_trans (Lib.trimPrefix_le _ _) hpl
  obtain⟨hW,hP⟩:=cutD_len _ _ _ _ hcd
  replace hW:=Nat.le_trans hW hr
  replace hP:=Nat.le_trans hP hr
  unfold takeR
  dsimp only
  rw [hp,hf,hcd]
  dsimp only
  cases ho:okWhole W 4
  ·exact tr_whole l p _ _ W P B w hp hf hl rfl rfl h3 hr hW hP he ho
  ·obtain ⟨o1,o2,o3,o4⟩:=okWhole_spec W 4 ho
   obtain⟨_,j1,j2⟩:=cutD_join _ _ _ _ hcd
   have hfin:∀ (hP7:P.length≤7) (hPa:P.all isD=true),
     (W++(P++zeros (7-P.length))).all isD=true∧valL (W++(P++zeros (7-P.length)))≤100000000000:=by
    intro hP7 hPa
    have ha:(W++(P++zeros (7-P.length))).all isD=true:=by rw [List.all_append,List.all_append,o3,hPa,zeros_all];rfl
    refine⟨ha,?_⟩
    have:=valL_lt _ ha
    have hlen:(W++(P++zeros (7-P.length))).length≤11:=by
     rw [List.length_append,List.length_append,zeros_len];omega
    have:=Nat.pow_le_pow_right (n:=10) (by omega) hlen
    omega
   have hZ:∀ (hP7:P.length≤7),zeros (7-(P.length:Int)).toNat=zeros (7-P.length):=by
    intro hP7;congr 1;omega
   cases B
   ·obtain ⟨_,rP⟩:=j2 rfl
    have hP7:P.length≤7:=by rw [rP];simp
    have hPa:P.all isD=true:=by rw [rP];rfl
    obtain⟨ha,hb⟩:=hfin hP7 hPa
    have hZ:=hZ hP7
    have hzl:=zeros_len (7-P.length)
    simp only [Bool.not_false,Bool.true_or,Bool.and_self,if_true]
    by_cases hv:valL (W++(P++zeros (7-P.length)))≤10000000000
    ·rw [if_pos hv]
     unfold sgnV
     cases hn:hasPrefix p [45]
     ·have hc:cutL p = []:=by unfold cutL;rw [hn];rfl
      exact tr_pos_f l p _ W P w hp hf hl hc rfl h3 hr hW hP he ho _ hZ hzl ha o1 (by omega) _ rfl hb (by omega)
     ·have hc:cutL p = [45]:=by unfold cutL;rw [hn];rfl
      by_cases h0:valL (W++(P++zeros (7-P.length)))=0
      ·simp only [h0,if_true]
       exact tr_nil_f l p _ W P w hp hf hl hc rfl h3 hr hW hP he ho _ hZ hzl ha o1 (by omega) h0
      ·simp only [if_true,h0,if_false]
       exact tr_neg_f l p _ W P w hp hf hl hc rfl h3 hr hW hP he ho _ hZ hzl ha o1 (by omega) _ rfl hb (by omega) (by omega)
    ·rw [if_neg hv]
     exact tr_over_f l p _ _ W P w hp hf hl rfl rfl h3 hr hW hP he ho _ hZ hzl ha o1 (by omega) _ rfl hb (by omega)
   ·by_cases hP7:P.length≤7
    ·cases hd:digOnly P
     ·simpa [hP7] using tr_part l p _ _ W P w hp hf hl rfl rfl h3 hr hW hP he ho (by omega) hd
     ·have hPa:P.all isD=true:=by unfold digOnly at hd;simp only [Bool.and_eq_true] at hd;exact hd.2
      cases hs:hasSuffix P [48]
      ·obtain ⟨ha,hb⟩:=hfin hP7 hPa
       have hZ:=hZ hP7
       have hzl:=zeros_len (7-P.length)
       simp only [hP7,decide_true,Bool.not_true,Bool.not_false,Bool.false_or,Bool.and_self,if_true]
       by_cases hv:valL (W++(P++zeros (7-P.length)))≤10000000000
       ·rw [if_pos hv]
        unfold sgnV
        cases hn:hasPrefix p [45]
        ·have hc:cutL p = []:=by unfold cutL;rw [hn];rfl
         exact tr_pos_t l p _ W P w hp hf hl hc rfl h3 hr hW hP he ho hd hs _ hZ hzl ha o1 (by omega) _ rfl hb (by omega)
        ·have hc:cutL p = [45]:=by unfold cutL;rw [hn];rfl
         by_cases h0:valL (W++(P++zeros (7-P.length)))=0
         ·simp only [h0,if_true]
          exact tr_nil_t l p _ W P w hp hf hl hc rfl h3 hr hW hP he ho hd hs _ hZ hzl ha o1 (by omega) h0
         ·simp only [if_true,h0,if_false]
          exact tr_neg_t l p _ W P w hp hf hl hc rfl h3 hr hW hP he ho hd hs _ hZ hzl ha o1 (by omega) _ rfl hb (by omega) (by omega)
       ·rw [if_neg hv]
        exact tr_over_t l p _ _ W P w hp hf hl rfl rfl h3 hr hW hP he ho hd hs _ hZ hzl ha o1 (by omega) _ rfl hb (by omega)
      ·simpa [hP7] using tr_nought l p _ _ W P w hp hf hl rfl rfl h3 hr hW hP he ho (by omega) hd hs
    ·simpa [hP7] using tr_long l p _ _ W P w hp hf hl rfl rfl h3 hr hW hP he ho (by omega)
theorem rsize_c (v:Int)(w:World)(h:I64 v) :
  Calls Tryz.prog 41 #[.int .i64 v] w fun e w'=>e=.returned (.tuple #[.int .u64 (v.natAbs:Nat),.string ⟨(signL v).toArray⟩])∧w'=w:=by
 obtain⟨h1,h2⟩:=h
 by_cases hv:v<0
 ·have e1:wrap64 (v+1)=v+1:=by unfold wrap64;omega
  have e2:wrap64 (-(v+1)) = -(v+1):=by unfold wrap64;omega
  have e3:IntKind.u64.wrap (-(v+1)) = -(v+1):=by rw [IntKind.wrap_u64];omega
  obtain⟨n,hn⟩:∃ n:Nat,n=v.natAbs:=⟨_,rfl⟩
  rw [←hn]
  have e4:IntKind.u64.wrap (-(v+1)+1)=(n:Int):=by rw [IntKind.wrap_u64];omega
  have hs:signL v = [45]:=by unfold signL;rw [if_pos hv]
  rw [hs]
  replace hn:=hid hn
  clear h1 h2
  go_enter Tryz.func41,Tryz.ntmps41
  go_wp2
  go_ret2
  exact⟨rfl,rfl⟩
 ·obtain ⟨n,rfl⟩:∃ n:Nat,v=n:=⟨v.toNat,by omega⟩
  have e1:IntKind.u64.wrap (n:Int)=(n:Int):=by rw [IntKind.wrap_u64];omega
  have hs:signL (n:Int) = []:=by unfold signL;rw [if_neg hv]
  rw [hs,Int.natAbs_natCast]
  go_enter Tryz.func41,Tryz.ntmps41
  go_wp2
  go_ret2
  exact⟨rfl,rfl⟩
theorem fix_cons (j:Nat):∀ v,fix (j+1) v=dgt (v / 10 ^ j)::fix j v:=by
 induction j with
 | zero=>intro v;simp [fix]
 | succ j ih =>
  intro v
  rw [fix,ih,fix,Nat.pow_succ,Nat.mul_comm (10 ^ j) 10,←Nat.div_div_eq_div_mul]
  rfl
structure Ends (v least j:Nat):Prop where
 le:least≤j
 z:v / 10 ^ j=0
 nz:j=least∨v / 10 ^ (j-1)≠0
theorem ends_dec (v j:Nat)(h:Ends v 1 j):fix j v=decDigits v:=by
 have hlt:v<10 ^ j:=by
  have:=h.z
  have hp:0<10 ^ j:=Nat.pos_of_ne_zero (by simp)
  rcases Nat.lt_or_ge v (10 ^ j) with k | k
  ·exact k
  ·have:=Nat.div_pos k hp;omega
 have hval:valL (fix j v)=v:=by rw [valL_fix,Nat.mod_eq_of_lt hlt]
 have hl:=h.le
 obtain⟨i,rfl⟩:∃ i,j=i+1:=⟨j-1,by omega⟩
 have hd:=decDigits_valL (fix (i+1) v) (by rw [fix_cons];simp) (fix_all _ _) (by
  by_cases hi:i=0
  ·subst hi
   rw [fix_cons]
   by_cases hz:dgt (v / 10 ^ 0)=48
   ·left;rw [hz];rfl
   ·right;simpa using hz
  ·right
   rw [fix_cons]
   have hnz:v / 10 ^ i≠0:=by
    rcases h.nz with k | k
    ·omega
    ·simpa using k
   have h10:v / 10 ^ i<10:=by
    rw [Nat.pow_succ] at hlt
    exact Nat.div_lt_of_lt_mul hlt
   intro e
   have e2:dgt (v / 10 ^ i)=48:=by simpa using e
   have e3:=congrArg UInt8.toNat e2
   rw [dgt_toNat] at e3
   have h48:(48:UInt8).toNat=48:=rfl
   rw [h48] at e3
   clear e e2 hval hlt h
   generalize v / 10 ^ i=q at *
   omega)
 rw [hval] at hd
 exact hd.symm
theorem ends_fix (v k j:Nat)(hk:v<10 ^ k)(h:Ends v k j):j=k:=by
 rcases h.nz with e | e
 ·exact e
 ·have:=h.le
  by_cases hj:j=k
  ·exact hj
  ·exfalso
   apply e
   apply Nat.div_eq_of_lt
   exact Nat.lt_of_lt_of_le hk (Nat.pow_le_pow_right (by omega) (by omega))
theorem one_byte (W:World)(b:Nat)(c:UInt8)(h:W.cell? ⟨b,0,none⟩=some (.int .u8 (c.toNat:Int))) :
  (convert 36 9 (.slice (some ⟨b,0,none⟩) 1 1)).run Tryz.prog W=.ok (.string ⟨#[c]⟩) W :=
 run_convert_bytes_back (P:=Tryz.prog) W 36 9 5 ⟨b,0,none⟩ 1 [c] Tryz.underlying36 Tryz.underlying5 Tryz.underlying9 (fun j hj=>by
  obtain rfl:j=0:=by simpa using hj
  exact h)
theorem rdigits_c (v least:Nat)(w:World)(hv:v<18446744073709551616)(hl:least≤20) :
  Calls Tryz.prog 42 #[.int .u64 (v:Int),.int .i64 (least:Int)] w fun e w'=>(∃ j,Ends v least j∧e=.returned (.string ⟨(fix j v).toArray⟩))∧Ext w w':=by
 go_enter Tryz.func42,Tryz.ntmps42
 go_wp2
 go_loopw [0,5] (fun vv s wr=>∃ j:Nat,j≤20∧vv=.int .u64 ((v / 10 ^ j:Nat):Int)∧s=.string ⟨(fix j v).toArray⟩∧(j≤least∨v / 10 ^ (j-1)≠0)∧Hid (Ext w wr)) (fun vv s _=>(RowKit.intOf vv).toNat+(20-strSize s))
 case atStart=>exact ⟨0,by omega,by simp,rfl,Or.inl (Nat.zero_le _),Ext.refl _⟩
 case round =>
  obtain⟨j,hj,rfl,rfl,hor,hx⟩:=hrel
  have hvj:v / 10 ^ j<18446744073709551616:=Nat.lt_of_le_of_lt (Nat.div_le_self _ _) hv
  have hj19:0<v / 10 ^ j→j≤19:=fun h0=>by
   rcases Nat.lt_or_ge j 20 with k | k
   ·omega
   ·have:v / 10 ^ j=0:=Nat.div_eq_of_lt (Nat.lt_of_lt_of_le hv (Nat.le_trans (by decide) (Nat.pow_le_pow_right (n:=10) (by omega) k)))
    omega
  generalize hq:v / 10 ^ j=q at *
  by_cases hz:0<q
  ·have hj1:=hj19 hz
   clear hj19
   have hq10:v / 10 ^ (j+1)=q / 10:=by rw [Nat.pow_succ,←Nat.div_div_eq_div_mul,hq]
   obtain⟨c,hc⟩:∃ c:UInt8,c=dgt q:=⟨_,rfl⟩
   have hcb:=fun (W:World) (b:Nat) (h:W.cell? ⟨b,0,none⟩=some (.int .u8 (c.toNat:Int)))=>one_byte W b c h
   have hfc:fix (j+1) v=c::fix j v:=by rw [fix_cons,hq,hc]
   have hfl:=fix_length j v
   have hbig:¬ 9223372036854775807<1+j:=by omega
   replace hfc:=hid hfc
   replace hq10:=hid hq10
   replace hq:=hid hq
   have hqI:(0:Int)<(q:Int):=by omega
   have e2:IntKind.u8.wrap (48+(q:Int) % 10)=(c.toNat:Int):=by rw [hc,dgt_toNat,IntKind.wrap_u8];omega
   replace hc:=hid hc
   go_wp2
   go_roundw
   case rel=>exact ⟨j+1,by omega,by rw [hq10.out];go_num,by rw [hfc.out],Or.inr (by rw [Nat.add_sub_cancel,hq.out];omega),(hx.out.alloc _ _)⟩
   case measure=>simp [RowKit.intOf,strSize_string,Lib.size_mk,hfl];omega
  ·have hq0:q=0:=by omega
   subst hq0
   clear hj19 hz
   by_cases hle:j<least
   ·have hleI:(j:Int)<(least:Int):=by omega
    have hq10:v / 10 ^ (j+1)=0:=by rw [Nat.pow_succ,←Nat.div_div_eq_div_mul,hq]
    obtain⟨c,hc⟩:∃ c:UInt8,c=dgt 0:=⟨_,rfl⟩
    have hcb:=fun (W:World) (b:Nat) (h:W.cell? ⟨b,0,none⟩=some (.int .u8 (c.toNat:Int)))=>one_byte W b c h
    have hfc:fix (j+1) v=c::fix j v:=by rw [fix_cons,hq,hc]
    have hfl:=fix_length j v
    have hbig:¬ 9223372036854775807<1+j:=by omega
    replace hfc:=hid hfc
    replace hq10:=hid hq10
    replace hq:=hid hq
    have e2:IntKind.u8.wrap 48=(c.toNat:Int):=by rw [hc];rfl
    replace hc:=hid hc
    go_wp2
    go_roundw
    case rel=>exact ⟨j+1,by omega,by rw [hq10.out];go_num,by rw [hfc.out],Or.inl (by omega),(hx.out.alloc _ _)⟩
    case measure=>simp [RowKit.intOf,strSize_string,Lib.size_mk,hfl];omega
   ·have hleI:¬ (j:Int)<(least:Int):=by omega
    have hfl:=fix_length j v
    go_wp2
    go_ret
    refine⟨⟨j,⟨by omega,hq,?_⟩,rfl⟩,hx.out⟩
    rcases hor with k | k
    ·left;omega
    ·right;exact k
theorem rdigits_dec (v:Nat)(w:World)(hv:v<18446744073709551616) :
  Calls Tryz.prog 42 #[.int .u64 (v:Int),.int .i64 1] w fun e w'=>e=.returned (.string ⟨(decDigits v).toArray⟩)∧Ext w w':=by
 refine (rdigits_c v 1 w hv (by omega)).mono ?_
 rintro e w' ⟨⟨j,hj,rfl⟩,hx⟩
 exact⟨by rw [ends_dec v j hj],hx⟩
theorem rdigits_fix (v k:Nat)(w:World)(hk:k≤7)(hv:v<10 ^ k) :
  Calls Tryz.prog 42 #[.int .u64 (v:Int),.int .i64 (k:Int)] w fun e w'=>e=.returned (.string ⟨(fix k v).toArray⟩)∧Ext w w':=by
 have hv2:v<18446744073709551616:=Nat.lt_of_lt_of_le hv (Nat.le_trans (Nat.pow_le_pow_right (n:=10) (by omega) hk) (by decide))
 refine (rdigits_c v k w hv2 (by omega)).mono ?_
 rintro e w' ⟨⟨j,hj,rfl⟩,hx⟩
 exact⟨by rw [ends_fix v k j hv hj],hx⟩
theorem fix_mod (k:Nat):∀ v,fix k (v % 10 ^ k)=fix k v:=by
 induction k with
 | zero=>intro v;rfl
 | succ k ih =>
  intro v
  rw [fix,fix]
  have e1:dgt (v % 10 ^ (k+1))=dgt v:=by
   unfold dgt
   rw [Nat.pow_succ,Nat.mod_mul_left_mod]
  have e2:v % 10 ^ (k+1) / 10=v / 10 % 10 ^ k:=by
   rw [Nat.pow_succ,Nat.mul_comm,Nat.mod_mul_right_div_self]
  rw [e1,e2,ih]
theorem rmoney_c (v:Int)(w:World)(h:I64 v) :
  Calls Tryz.prog 14 #[.int .i64 v] w fun e w'=>e=.returned (.string ⟨(moneyL v).toArray⟩)∧Ext w w':=by
 have hs:=hid <| rsize_c v w h
 obtain⟨hl0,hl1⟩:=dec_len v h 100
 have hn:v.natAbs<18446744073709551616:=by have:=h.1;have:=h.2;omega
 unfold moneyL
 generalize v.natAbs=n at *
 generalize signL v=A at *
 have d1:=hid <| fun w=>rdigits_dec (n / 100) w (Nat.lt_of_le_of_lt (Nat.div_le_self _ _) hn)
 have d2:Hid (∀ w,Calls Tryz.prog 42 #[.int .u64 ((n % 100:Nat):Int),.int .i64 2] w fun e w'=>e=.returned (.string ⟨(fix 2 n).toArray⟩)∧Ext w w'):=fun w=>by
  have:=rdigits_fix (n % 100) 2 w (by omega) (by omega)
  rw [show fix 2 (n % 100)=fix 2 n from fix_mod 2 n] at this
  exact this
 have hl2:=fix_length 2 n
 generalize fix 2 n=C at *
 generalize decDigits (n / 100)=B at *
 obtain⟨Q,hQ⟩:∃ Q:Nat,Q=n / 100:=⟨_,rfl⟩
 obtain⟨R,hR⟩:∃ R:Nat,R=n % 100:=⟨_,rfl⟩
 rw [←hQ] at d1
 rw [←hR] at d2
 have eQ:(n:Int) / 100=(Q:Int):=by omega
 have eR:(n:Int) % 100=(R:Int):=by omega
 clear hQ hR
 have f1:¬ 9223372036854775807<A.length+B.length:=by omega
 have f2:¬ 9223372036854775807<A.length+B.length+1:=by omega
 have f3:¬ 9223372036854775807<A.length+(B.length+(1+2)):=by omega
 have f4:¬ 9223372036854775807<A.length+(B.length+1):=by omega
 go_enter Tryz.func14,Tryz.ntmps14
 go_wp2_with fail
 refine Calls.mono hs.out ?_
 rintro e w1 ⟨rfl,rfl⟩
 clear hs
 go_wp2_with fail
 refine (d1.out _).mono ?_
 rintro e w1 ⟨rfl,hx⟩
 go_wp2_with fail
 refine (d2.out _).mono ?_
 rintro e w2 ⟨rfl,hx2⟩
 go_wp2
 go_ret
 exact⟨rfl,hx.trans hx2⟩
theorem rrate_c (v:Int)(w:World)(h:I64 v) :
  Calls Tryz.prog 13 #[.int .i64 v] w fun e w'=>e=.returned (.string ⟨(rateL v).toArray⟩)∧Ext w w':=by
 have hs:=hid <| rsize_c v w h
 obtain⟨hl0,hl1⟩:=dec_len v h 10000000
 have hn:v.natAbs<18446744073709551616:=by have:=h.1;have:=h.2;omega
 unfold rateL tailL
 generalize v.natAbs=n at *
 generalize signL v=A at *
 have d1:=hid <| fun w=>rdigits_dec (n / 10000000) w (Nat.lt_of_le_of_lt (Nat.div_le_self _ _) hn)
 have d2:Hid (∀ w,Calls Tryz.prog 42 #[.int .u64 ((n % 10000000:Nat):Int),.int .i64 7] w fun e w'=>e=.returned (.string ⟨(fix 7 n).toArray⟩)∧Ext w w'):=fun w=>by
  have:=rdigits_fix (n % 10000000) 7 w (by omega) (by omega)
  rw [show fix 7 (n % 10000000)=fix 7 n from fix_mod 7 n] at this
  exact this
 have hl2:=fix_length 7 n
 generalize fix 7 n=C at *
 generalize hT:trimRightB C 48=T
 replace hT:=hid hT
 generalize decDigits (n / 10000000)=B at *
 obtain⟨Q,hQ⟩:∃ Q:Nat,Q=n / 10000000:=⟨_,rfl⟩
 obtain⟨R,hR⟩:∃ R:Nat,R=n % 10000000:=⟨_,rfl⟩
 rw [←hQ] at d1
 rw [←hR] at d2
 have eQ:(n:Int) / 10000000=(Q:Int):=by omega
 have eR:(n:Int) % 10000000=(R:Int):=by omega
 clear hQ hR
 have f1:¬ 9223372036854775807<A.length+B.length:=by omega
 go_enter Tryz.func13,Tryz.ntmps13
 go_wp2_with fail
 refine Calls.mono hs.out ?_
 rintro e w1 ⟨rfl,rfl⟩
 clear hs
 go_wp2_with fail
 refine (d1.out _).mono ?_
 rintro e w1 ⟨rfl,hx⟩
 go_wp2_with fail
 refine (d2.out _).mono ?_
 rintro e w2 ⟨rfl,hx2⟩
 replace hx:Hid (Ext _ w2):=hx.trans hx2
 clear hx2 eQ eR d1 d2
 go_wp2
 go_loop [6] (fun s=>∃ X:List UInt8,s=.string ⟨X.toArray⟩∧X.length≤7∧Hid (trimRightB X 48=T)) (fun s=>strSize s)
 case atStart=>exact ⟨C,rfl,by omega,hT⟩
 case round =>
  obtain⟨X,rfl,hX,htr⟩:=hrel
  by_cases hX0:X = []
  ·subst hX0
   obtain rfl:T = []:=htr.out.symm
   have f2:¬ 9223372036854775807<A.length+B.length+1:=by omega
   have f3:¬ 9223372036854775807<A.length+(B.length+1):=by omega
   go_wp2
   go_ret
   exact⟨rfl,hx.out⟩
  ·obtain ⟨Y,x,hYx⟩:∃ Y x,X=Y++[x]:=⟨X.dropLast,X.getLast hX0,(List.dropLast_concat_getLast hX0).symm⟩
   have hXl:X.length=Y.length+1:=by rw [hYx];simp
   have hix:∀ h,(⟨X.toArray⟩:ByteArray)[Y.length]'h=x:=by
    subst hYx
    intro h
    have:(Y++[x])[Y.length]?=some x:=by simp
    have h2:=Lib.getElem_mk (Y++[x]) Y.length h
    rw [this] at h2
    exact (Option.some.inj h2).symm
   have hex:(⟨X.toArray⟩:ByteArray).extract 0 Y.length=⟨Y.toArray⟩:=by
    rw [Lib.extract_mk,hYx];simp
   have hX1:(X==[])=false:=by simpa using hX0
   have hlI:(0:Int)<(Y.length:Int)+1:=by omega
   have hY7:Y.length≤6:=by omega
   by_cases hx48:x=48
   ·have hb:((x.toNat:Int)==48)=true:=by rw [hx48];rfl
    have htr2:trimRightB X 48=trimRightB Y 48:=by rw [hYx,trimRightB_snoc,if_pos hx48]
    rw [htr2] at htr
    replace hYx:=hid hYx
    clear htr2 hX0 hX
    go_wp2
    go_round
    case rel=>exact ⟨Y,rfl,by omega,htr⟩
    case measure=>simp [strSize_string,Lib.size_mk,hXl]
   ·have hb:((x.toNat:Int)==48)=false:=by
     simp
     exact fun e=>hx48 (UInt8.toNat_inj.mp (by show x.toNat=48;omega))
    have htr2:trimRightB X 48=X:=by rw [hYx,trimRightB_snoc,if_neg hx48]
    have hC:T=X:=htr.out.symm.trans htr2
    have hdot:dotL T=46::X:=by rw [hC];unfold dotL;rw [if_neg (by simpa using hX0)]
    replace hdot:=hid hdot
    clear htr2 htr hC hYx hT
    have f2:¬ 9223372036854775807<A.length+B.length+1:=by omega
    have f3:¬ 9223372036854775807<A.length+(B.length+1):=by omega
    have f4:¬ 9223372036854775807<A.length+(B.length+1)+(Y.length+1):=by omega
    have f5:¬ 9223372036854775807<A.length+(B.length+(Y.length+1+1)):=by omega
    have f6:¬ 9223372036854775807<A.length+(B.length+(Y.length+1+1))+1:=by omega
    go_wp2
    go_ret
    exact⟨by rw [hdot.out];simp,hx.out⟩
theorem rdigit_c (c:UInt8)(w:World) :
  Calls Tryz.prog 172 #[.int .u8 (c.toNat:Int)] w fun e w'=>e=.returned (.bool (isD c))∧w'=w:=by
 unfold isD
 by_cases h1:48≤c.toNat
 ·have h1I:(48:Int)≤(c.toNat:Int):=by omega
  by_cases h2:c.toNat≤57
  ·have h2I:(c.toNat:Int)≤57:=by omega
   rw [decide_eq_true h1,decide_eq_true h2]
   go_enter Tryz.func172,Tryz.ntmps172
   go_wp2
   go_ret
   exact⟨rfl,rfl⟩
  ·have h2I:decide ((c.toNat:Int)≤57)=false:=decide_eq_false (by omega)
   have h2J:¬ (c.toNat:Int)≤57:=by omega
   rw [decide_eq_true h1,decide_eq_false h2]
   go_enter Tryz.func172,Tryz.ntmps172
   go_wp2
   go_ret
   exact⟨rfl,rfl⟩
 ·have h1I:¬ (48:Int)≤(c.toNat:Int):=by omega
  rw [decide_eq_false h1]
  go_enter Tryz.func172,Tryz.ntmps172
  go_wp2
  go_ret
  exact⟨rfl,rfl⟩
theorem rdigit_x (c:UInt8)(b:Bool)(h:isD c=b)(w:World) :
  Calls Tryz.prog 172 #[.int .u8 (c.toNat:Int)] w fun e w'=>e=.returned (.bool b)∧w'=w:=h ▸ rdigit_c c w
theorem takeM_none (l:List UInt8)(h:¬ ∃ D F,trimPrefix l [45]=D++46::F∧F.length=2∧okWhole D 20=true∧digOnly F=true):takeM l=(0,4):=by
 unfold takeM
 rcases hcd:cutD (trimPrefix l [45]) with ⟨W,P,B⟩
 dsimp only
 split
 ·rename_i hc
  exfalso
  simp only [Bool.and_eq_true,decide_eq_true_eq] at hc
  obtain⟨_,j1,j2⟩:=cutD_join _ _ _ _ hcd
  have hB:B=true:=by
   cases B
   ·have:=(j2 rfl).2;rw [this] at hc;simp at hc
   ·rfl
  exact h ⟨W,P,j1 hB,hc.2.1,hc.1,hc.2.2⟩
 ·rfl
theorem takeM_some (l D F:List UInt8)(ht:trimPrefix l [45]=D++46::F)(hF:F.length=2)(hD:okWhole D 20=true)(hd:F.all isD=true) :
  takeM l=if valL (D++F)≤1000000000000000 then sgnV (hasPrefix l [45]) (valL (D++F)) else (0,3):=by
 unfold takeM
 rw [ht,cutD_hit D F (dot_not (okWhole_spec D 20 hD).2.2.1)]
 have:digOnly F=true:=by
  unfold digOnly;rw [hd]
  cases F with
  | nil=>simp at hF
  | cons a b=>rfl
 simp only [hD,hF,this,decide_true,Bool.and_self,if_true]
theorem same_parts {D D' F F':List UInt8}{c c':UInt8}(h:D++c::F=D'++c'::F')(hl:F.length=F'.length):D=D'∧c=c'∧F=F':=by
 have h1:=congrArg List.length h
 simp at h1
 obtain⟨e1,e2⟩:=List.append_inj h (by omega)
 simp at e2
 exact⟨e1,e2.1,e2.2⟩
def proc (t:List UInt8)(N k:Nat):List UInt8:=if k≤N then t.take k else t.take N++(t.drop (N+1)).take (k-(N+1))
theorem proc_zero (t:List UInt8)(N:Nat):proc t N 0 = []:=by simp [proc]
theorem proc_skip (t:List UInt8)(N:Nat):proc t N (N+1)=proc t N N:=by
 unfold proc
 rw [if_neg (by omega),if_pos (by omega)];simp
theorem proc_step (t:List UInt8)(N k:Nat)(c:UInt8)(hk:k≠N)(hc:t[k]?=some c):proc t N (k+1)=proc t N k++[c]:=by
 unfold proc
 by_cases h:k<N
 ·rw [if_pos (by omega),if_pos (by omega),List.take_add_one,hc];rfl
 ·rw [if_neg (by omega),if_neg (by omega),show k+1-(N+1)=(k-(N+1))+1 by omega,List.take_add_one]
  have:(t.drop (N+1))[k-(N+1)]?=some c:=by rw [List.getElem?_drop,show N+1+(k-(N+1))=k by omega];exact hc
  rw [this,List.append_assoc];rfl
theorem proc_all (D F:List UInt8)(c:UInt8)(hF:F.length=2):proc (D++c::F) D.length (D.length+3)=D++F:=by
 unfold proc
 rw [if_neg (by omega)]
 have e1:(D++c::F).take D.length=D:=by simp
 have e2:(D++c::F).drop (D.length+1)=F:=by
  rw [List.drop_append];simp
 rw [e1,e2,show D.length+3-(D.length+1)=2 by omega,←hF,List.take_length]
theorem valL_more (X:List UInt8)(c:UInt8):valL X≤valL (X++[c]):=by rw [valL_snoc];omega
theorem rtm_nil (w:World) :
  Calls Tryz.prog 140 #[.string ⟨#[]⟩] w fun e w'=>e=.returned (.tuple #[.int .i64 0,.int .i64 4])∧w'=w:=by
 go_enter Tryz.func140,Tryz.ntmps140
 go_wp2
 go_ret2
 exact⟨rfl,rfl⟩
theorem rtm_short_n (t:List UInt8)(w:World)(h:t.length<4)(h0:0<t.length) :
  Calls Tryz.prog 140 #[.string ⟨(45::t).toArray⟩] w fun e w'=>e=.returned (.tuple #[.int .i64 0,.int .i64 4])∧w'=w:=by
 have hex:(⟨(45::t).toArray⟩:ByteArray).extract 1 (t.length+1)=⟨t.toArray⟩:=by rw [Lib.extract_mk];simp
 have hI:(t.length:Int)-3<1:=by omega
 have h0I:(0:Int)<(t.length:Int):=by omega
 have hw:wrap64 ((t.length:Int)-3)=(t.length:Int)-3:=by unfold wrap64;omega
 go_enter Tryz.func140,Tryz.ntmps140
 go_wp2
 go_ret2
 exact⟨rfl,rfl⟩
theorem rtm_empty_n (w:World) :
  Calls Tryz.prog 140 #[.string ⟨#[45]⟩] w fun e w'=>e=.returned (.tuple #[.int .i64 0,.int .i64 4])∧w'=w:=by
 go_enter Tryz.func140,Tryz.ntmps140
 go_wp2
 go_ret2
 exact⟨rfl,rfl⟩
theorem rtm_long_n (t:List UInt8)(w:World)(h:23<t.length)(h2:t.length≤20000) :
  Calls Tryz.prog 140 #[.string ⟨(45::t).toArray⟩] w fun e w'=>e=.returned (.tuple #[.int .i64 0,.int .i64 4])∧w'=w:=by
 have hex:(⟨(45::t).toArray⟩:ByteArray).extract 1 (t.length+1)=⟨t.toArray⟩:=by rw [Lib.extract_mk];simp
 have hI:¬ (t.length:Int)-3<1:=by omega
 have h0I:(0:Int)<(t.length:Int):=by omega
 have hJ:(20:Int)<(t.length:Int)-3:=by omega
 have hw:wrap64 ((t.length:Int)-3)=(t.length:Int)-3:=by unfold wrap64;omega
 go_enter Tryz.func140,Tryz.ntmps140
 go_wp2
 go_ret2
 exact⟨rfl,rfl⟩
theorem rtm_nodot_n (t:List UInt8)(w:World)(N:Nat)(htl:t.length=N+3)(hN1:1≤N)(hN20:N≤20)(c:UInt8)(hixN:∀ h,(⟨t.toArray⟩:ByteArray)[N]'h=c)(hc:((c.toNat:Int) != 46)=true) :
  Calls Tryz.prog 140 #[.string ⟨(45::t).toArray⟩] w fun e w'=>e=.returned (.tuple #[.int .i64 0,.int .i64 4])∧w'=w:=by
 have hex:(⟨(45::t).toArray⟩:ByteArray).extract 1 (N+3+1)=⟨t.toArray⟩:=by rw [←htl,Lib.extract_mk];simp
 have hI:¬ (N:Int)<1:=by omega
 have hJ:¬ (20:Int)<(N:Int):=by omega
 have hNN:N<N+3:=by omega
 have hNI:(N:Int)<(N:Int)+3:=by omega
 have h03:(0:Int)<(N:Int)+3:=by omega
 go_enter Tryz.func140,Tryz.ntmps140
 go_wp2
 go_ret2
 exact⟨rfl,rfl⟩
theorem rtm_nought_n (t:List UInt8)(w:World)(N:Nat)(htl:t.length=N+3)(hN1:1≤N)(hN20:N≤20)(x:UInt8)(hix0:∀ h,(⟨t.toArray⟩:ByteArray)[0]'h=x)(hixN:∀ h,(⟨t.toArray⟩:ByteArray)[N]'h=46)(h1:1<N)(hx48:((x.toNat:Int)==48)=true) :
  Calls Tryz.prog 140 #[.string ⟨(45::t).toArray⟩] w fun e w'=>e=.returned (.tuple #[.int .i64 0,.int .i64 4])∧w'=w:=by
 have hex:(⟨(45::t).toArray⟩:ByteArray).extract 1 (N+3+1)=⟨t.toArray⟩:=by rw [←htl,Lib.extract_mk];simp
 have hI:¬ (N:Int)<1:=by omega
 have hJ:¬ (20:Int)<(N:Int):=by omega
 have hNN:N<N+3:=by omega
 have hNI:(N:Int)<(N:Int)+3:=by omega
 have h03:(0:Int)<(N:Int)+3:=by omega
 have h1I:(1:Int)<(N:Int):=by omega
 go_enter Tryz.func140,Tryz.ntmps140
 go_wp2
 go_ret2
 exact⟨rfl,rfl⟩
theorem rtm_loop_na (t:List UInt8)(w:World)(N:Nat)(htl:t.length=N+3)(hN1:1≤N)(hN20:N≤20)(x:UInt8)(hix0:∀ h,(⟨t.toArray⟩:ByteArray)[0]'h=x)(hixN:∀ h,(⟨t.toArray⟩:ByteArray)[N]'h=46)(hk1:¬ 1<N)
  (RV RC:Int) (hbad:∀ k c,k≠N→t[k]?=some c→isD c=false→RV=0∧RC=4)
  (hend:(∀ j c,j≠N→t[j]?=some c→isD c=true)→(RV,RC)=if valL (proc t N (N+3))≤1000000000000000 then sgnV true (valL (proc t N (N+3))) else (0,3)) :
  Calls Tryz.prog 140 #[.string ⟨(45::t).toArray⟩] w fun e w'=>e=.returned (.tuple #[.int .i64 RV,.int .i64 RC])∧w'=w:=by
 replace hbad:=hid hbad
 replace hend:=hid hend
 have hex:(⟨(45::t).toArray⟩:ByteArray).extract 1 (N+3+1)=⟨t.toArray⟩:=by rw [←htl,Lib.extract_mk];simp
 have hI:¬ (N:Int)<1:=by omega
 have hJ:¬ (20:Int)<(N:Int):=by omega
 have hNN:N<N+3:=by omega
 have hNI:(N:Int)<(N:Int)+3:=by omega
 have h03:(0:Int)<(N:Int)+3:=by omega
 have h1I:¬ (1:Int)<(N:Int):=by omega
 go_enter Tryz.func140,Tryz.ntmps140
 go_wp2
 go_loop [6,7,8] (fun v o i=>∃ (k V:Nat) (O:Bool),k≤N+3∧i=.int .i64 (k:Int)∧v=.int .i64 (V:Int)∧o=.bool O∧V≤10000000000000009∧Hid (∀ j c,j<k→j≠N→t[j]?=some c→isD c=true)∧Hid ((O=false∧V=valL (proc t N k))∨(O=true∧1000000000000000<valL (proc t N k)))) (fun _ _ i=>N+3-(RowKit.intOf i).toNat)
 case atStart=>exact ⟨0,0,false,Nat.zero_le _,rfl,rfl,rfl,Nat.zero_le _,fun j c hj=>absurd hj (Nat.not_lt_zero _),Or.inl ⟨rfl,by rw [proc_zero];rfl⟩⟩
 case round =>
  obtain⟨k,V,O,hk,rfl,rfl,rfl,hV,hall,hrel⟩:=hrel
  by_cases hkl:k<N+3
  ·have hkI:(k:Int)<(N:Int)+3:=by omega
   have hk0:(0:Int)≤(k:Int):=by omega
   have hwk:wrap64 ((k:Int)+1)=(k:Int)+1:=by unfold wrap64;omega
   by_cases hkN:k=N
   ·subst hkN
    go_wp2
    go_round
    case rel=>exact ⟨k+1,V,O,by omega,by go_num,rfl,rfl,hV,(fun j c h1 h2 h3=>hall.out j c (by omega) h2 h3),by rw [proc_skip];exact hrel.out⟩
    case measure=>simp [RowKit.intOf] <;> omega
   ·have hkNb:((k:Int)==(N:Int))=false:=by simp;omega
    obtain⟨c,hc⟩:∃ c,t[k]?=some c:=⟨t[k]'(by omega),List.getElem?_eq_getElem _⟩
    have hixk:∀ h,(⟨t.toArray⟩:ByteArray)[k]'h=c:=by
     intro h
     have h2:=Lib.getElem_mk t k h
     rw [hc] at h2
     exact (Option.some.inj h2).symm
    cases hd:isD c
    ·obtain ⟨rfl,rfl⟩:=hbad.out k c hkN hc hd
     replace hd:=hid hd
     replace hc:=hid hc
     go_wp2_with fail
     refine (rdigit_x c false hd.out _).mono ?_
     rintro e w1 ⟨rfl,rfl⟩
     go_wp2
     go_ret2
     exact⟨rfl,rfl⟩
    ·have hps:=proc_step t N k c hkN hc
     have hr:=isD_range hd
     have hmore:=valL_more (proc t N k) c
     have hall2:∀ j c',j<k+1→j≠N→t[j]?=some c'→isD c'=true:=fun j c' h1 h2 h3=>by
      by_cases h4:j=k
      ·subst h4;rw [hc] at h3;rw [←Option.some.inj h3];exact hd
      ·exact hall.out j c' (by omega) h2 h3
     have hsn:=valL_snoc (proc t N k) c
     rw [←hps] at hmore hsn
     replace hd:=hid hd
     replace hc:=hid hc
     replace hps:=hid hps
     replace hall2:=hid hall2
     replace hmore:=hid hmore
     replace hsn:=hid hsn
     cases O
     ·have hVv:V=valL (proc t N k):=by
       rcases hrel.out with h | h
       ·exact h.2
       ·cases h.1
      by_cases hVM:V≤1000000000000000
      ·have hVI:¬ (1000000000000000:Int)<(V:Int):=by omega
       have hVd:decide ((1000000000000000:Int)<(V:Int))=false:=decide_eq_false hVI
       obtain⟨Y,hY⟩:∃ Y:Nat,Y=10 * V+(c.toNat-48):=⟨_,rfl⟩
       have hw8:IntKind.u8.wrap ((c.toNat:Int)-48)=((c.toNat-48:Nat):Int):=by rw [IntKind.wrap_u8];omega
       obtain⟨Z,hZ⟩:∃ Z:Nat,Z=c.toNat-48:=⟨_,rfl⟩
       rw [←hZ] at hw8 hY
       have hZ9:Z≤9:=by omega
       have hwY:wrap64 (10 * (V:Int)+(Z:Int))=(Y:Int):=by unfold wrap64;omega
       have hw10:wrap64 (10 * (V:Int))=10 * (V:Int):=by unfold wrap64;omega
       have hYI:10 * (V:Int)+(Z:Int)=(Y:Int):=by omega
       have hYv:Y=valL (proc t N (k+1)):=by rw [hsn.out,hY,hVv,hZ]
       replace hYv:=hid hYv
       replace hY:=hid hY
       replace hVv:=hid hVv
       replace hZ:=hid hZ
       go_wp2_with fail
       refine (rdigit_x c true hd.out _).mono ?_
       rintro e w1 ⟨rfl,rfl⟩
       go_wp2
       go_round
       case rel=>exact ⟨k+1,Y,false,by omega,by go_num,rfl,rfl,by have:=hY.out;omega,hall2.out,Or.inl ⟨rfl,hYv.out⟩⟩
       case measure=>simp [RowKit.intOf] <;> omega
      ·have hVI:(1000000000000000:Int)<(V:Int):=by omega
       have hgt:1000000000000000<valL (proc t N (k+1)):=by have:=hmore.out;omega
       replace hVv:=hid hVv
       replace hgt:=hid hgt
       go_wp2_with fail
       refine (rdigit_x c true hd.out _).mono ?_
       rintro e w1 ⟨rfl,rfl⟩
       go_wp2
       go_round
       case rel=>exact ⟨k+1,V,true,by omega,by go_num,rfl,rfl,hV,hall2.out,Or.inr ⟨rfl,hgt.out⟩⟩
       case measure=>simp [RowKit.intOf] <;> omega
     ·have hgt:1000000000000000<valL (proc t N (k+1)):=by
       have:=hmore.out
       rcases hrel.out with h | h
       ·cases h.1
       ·have:=h.2;omega
      replace hgt:=hid hgt
      go_wp2_with fail
      refine (rdigit_x c true hd.out _).mono ?_
      rintro e w1 ⟨rfl,rfl⟩
      go_wp2
      go_round
      case rel=>exact ⟨k+1,V,true,by omega,by go_num,rfl,rfl,hV,hall2.out,Or.inr ⟨rfl,hgt.out⟩⟩
      case measure=>simp [RowKit.intOf] <;> omega
  ·obtain rfl:k=N+3:=by omega
   have hkI:¬ ((N+3:Nat):Int)<(N:Int)+3:=by omega
   have hR:=hend.out (fun j c h1 h2=>hall.out j c (by have:=(List.getElem?_eq_some_iff.mp h2).1;omega) h1 h2)
   cases O
   ·have hVv:V=valL (proc t N (N+3)):=by
     rcases hrel.out with h | h
     ·exact h.2
     ·cases h.1
    rw [←hVv] at hR
    by_cases hVM:V≤1000000000000000
    ·rw [if_pos hVM] at hR
     have hVI:¬ (1000000000000000:Int)<(V:Int):=by omega
     have hVd:decide ((1000000000000000:Int)<(V:Int))=false:=decide_eq_false hVI
     replace hVv:=hid hVv
     unfold sgnV at hR
     by_cases hV0:V=0
     ·subst hV0
      simp only [if_true] at hR
      obtain⟨rfl,rfl⟩:=Prod.mk.inj hR
      go_wp2
      go_ret2
      exact⟨rfl,rfl⟩
     ·simp only [if_true,if_neg hV0] at hR
      obtain⟨rfl,rfl⟩:=Prod.mk.inj hR
      have hV0I:((V:Int)==0)=false:=by simp;omega
      have hwn:wrap64 (-(V:Int)) = -(V:Int):=by unfold wrap64;omega
      go_wp2
      go_ret2
      exact⟨rfl,rfl⟩
    ·rw [if_neg hVM] at hR
     obtain⟨rfl,rfl⟩:=Prod.mk.inj hR
     have hVI:(1000000000000000:Int)<(V:Int):=by omega
     replace hVv:=hid hVv
     go_wp2
     go_ret2
     exact⟨rfl,rfl⟩
   ·have hgt:¬ valL (proc t N (N+3))≤1000000000000000:=by
     rcases hrel.out with h | h
     ·cases h.1
     ·have:=h.2;omega
    rw [if_neg hgt] at hR
    obtain⟨rfl,rfl⟩:=Prod.mk.inj hR
    replace hgt:Hid True:=trivial
    go_wp2
    go_ret2
    exact⟨rfl,rfl⟩
theorem rtm_loop_nb (t:List UInt8)(w:World)(N:Nat)(htl:t.length=N+3)(hN1:1≤N)(hN20:N≤20)(x:UInt8)(hix0:∀ h,(⟨t.toArray⟩:ByteArray)[0]'h=x)(hixN:∀ h,(⟨t.toArray⟩:ByteArray)[N]'h=46)(h1:1<N)(hx48:((x.toNat:Int)==48)=false)
  (RV RC:Int) (hbad:∀ k c,k≠N→t[k]?=some c→isD c=false→RV=0∧RC=4)
  (hend:(∀ j c,j≠N→t[j]?=some c→isD c=true)→(RV,RC)=if valL (proc t N (N+3))≤1000000000000000 then sgnV true (valL (proc t N (N+3))) else (0,3)) :
  Calls Tryz.prog 140 #[.string ⟨(45::t).toArray⟩] w fun e w'=>e=.returned (.tuple #[.int .i64 RV,.int .i64 RC])∧w'=w:=by
 replace hbad:=hid hbad
 replace hend:=hid hend
 have hex:(⟨(45::t).toArray⟩:ByteArray).extract 1 (N+3+1)=⟨t.toArray⟩:=by rw [←htl,Lib.extract_mk];simp
 have hI:¬ (N:Int)<1:=by omega
 have hJ:¬ (20:Int)<(N:Int):=by omega
 have hNN:N<N+3:=by omega
 have hNI:(N:Int)<(N:Int)+3:=by omega
 have h03:(0:Int)<(N:Int)+3:=by omega
 have h1I:(1:Int)<(N:Int):=by omega
 go_enter Tryz.func140,Tryz.ntmps140
 go_wp2
 go_loop [6,7,8] (fun v o i=>∃ (k V:Nat) (O:Bool),k≤N+3∧i=.int .i64 (k:Int)∧v=.int .i64 (V:Int)∧o=.bool O∧V≤10000000000000009∧Hid (∀ j c,j<k→j≠N→t[j]?=some c→isD c=true)∧Hid ((O=false∧V=valL (proc t N k))∨(O=true∧1000000000000000<valL (proc t N k)))) (fun _ _ i=>N+3-(RowKit.intOf i).toNat)
 case atStart=>exact ⟨0,0,false,Nat.zero_le _,rfl,rfl,rfl,Nat.zero_le _,fun j c hj=>absurd hj (Nat.not_lt_zero _),Or.inl ⟨rfl,by rw [proc_zero];rfl⟩⟩
 case round =>
  obtain⟨k,V,O,hk,rfl,rfl,rfl,hV,hall,hrel⟩:=hrel
  by_cases hkl:k<N+3
  ·have hkI:(k:Int)<(N:Int)+3:=by omega
   have hk0:(0:Int)≤(k:Int):=by omega
   have hwk:wrap64 ((k:Int)+1)=(k:Int)+1:=by unfold wrap64;omega
   by_cases hkN:k=N
   ·subst hkN
    go_wp2
    go_round
    case rel=>exact ⟨k+1,V,O,by omega,by go_num,rfl,rfl,hV,(fun j c h1 h2 h3=>hall.out j c (by omega) h2 h3),by rw [proc_skip];exact hrel.out⟩
    case measure=>simp [RowKit.intOf] <;> omega
   ·have hkNb:((k:Int)==(N:Int))=false:=by simp;omega
    obtain⟨c,hc⟩:∃ c,t[k]?=some c:=⟨t[k]'(by omega),List.getElem?_eq_getElem _⟩
    have hixk:∀ h,(⟨t.toArray⟩:ByteArray)[k]'h=c:=by
     intro h
     have h2:=Lib.getElem_mk t k h
     rw [hc] at h2
     exact (Option.some.inj h2).symm
    cases hd:isD c
    ·obtain ⟨rfl,rfl⟩:=hbad.out k c hkN hc hd
     replace hd:=hid hd
     replace hc:=hid hc
     go_wp2_with fail
     refine (rdigit_x c false hd.out _).mono ?_
     rintro e w1 ⟨rfl,rfl⟩
     go_wp2
     go_ret2
     exact⟨rfl,rfl⟩
    ·have hps:=proc_step t N k c hkN hc
     have hr:=isD_range hd
     have hmore:=valL_more (proc t N k) c
     have hall2:∀ j c',j<k+1→j≠N→t[j]?=some c'→isD c'=true:=fun j c' h1 h2 h3=>by
      by_cases h4:j=k
      ·subst h4;rw [hc] at h3;rw [←Option.some.inj h3];exact hd
      ·exact hall.out j c' (by omega) h2 h3
     have hsn:=valL_snoc (proc t N k) c
     rw [←hps] at hmore hsn
     replace hd:=hid hd
     replace hc:=hid hc
     replace hps:=hid hps
     replace hall2:=hid hall2
     replace hmore:=hid hmore
     replace hsn:=hid hsn
     cases O
     ·have hVv:V=valL (proc t N k):=by
       rcases hrel.out with h | h
       ·exact h.2
       ·cases h.1
      by_cases hVM:V≤1000000000000000
      ·have hVI:¬ (1000000000000000:Int)<(V:Int):=by omega
       have hVd:decide ((1000000000000000:Int)<(V:Int))=false:=decide_eq_false hVI
       obtain⟨Y,hY⟩:∃ Y:Nat,Y=10 * V+(c.toNat-48):=⟨_,rfl⟩
       have hw8:IntKind.u8.wrap ((c.toNat:Int)-48)=((c.toNat-48:Nat):Int):=by rw [IntKind.wrap_u8];omega
       obtain⟨Z,hZ⟩:∃ Z:Nat,Z=c.toNat-48:=⟨_,rfl⟩
       rw [←hZ] at hw8 hY
       have hZ9:Z≤9:=by omega
       have hwY:wrap64 (10 * (V:Int)+(Z:Int))=(Y:Int):=by unfold wrap64;omega
       have hw10:wrap64 (10 * (V:Int))=10 * (V:Int):=by unfold wrap64;omega
       have hYI:10 * (V:Int)+(Z:Int)=(Y:Int):=by omega
       have hYv:Y=valL (proc t N (k+1)):=by rw [hsn.out,hY,hVv,hZ]
       replace hYv:=hid hYv
       replace hY:=hid hY
       replace hVv:=hid hVv
       replace hZ:=hid hZ
       go_wp2_with fail
       refine (rdigit_x c true hd.out _).mono ?_
       rintro e w1 ⟨rfl,rfl⟩
       go_wp2
       go_round
       case rel=>exact ⟨k+1,Y,false,by omega,by go_num,rfl,rfl,by have:=hY.out;omega,hall2.out,Or.inl ⟨rfl,hYv.out⟩⟩
       case measure=>simp [RowKit.intOf] <;> omega
      ·have hVI:(1000000000000000:Int)<(V:Int):=by omega
       have hgt:1000000000000000<valL (proc t N (k+1)):=by have:=hmore.out;omega
       replace hVv:=hid hVv
       replace hgt:=hid hgt
       go_wp2_with fail
       refine (rdigit_x c true hd.out _).mono ?_
       rintro e w1 ⟨rfl,rfl⟩
       go_wp2
       go_round
       case rel=>exact ⟨k+1,V,true,by omega,by go_num,rfl,rfl,hV,hall2.out,Or.inr ⟨rfl,hgt.out⟩⟩
       case measure=>simp [RowKit.intOf] <;> omega
     ·have hgt:1000000000000000<valL (proc t N (k+1)):=by
       have:=hmore.out
       rcases hrel.out with h | h
       ·cases h.1
       ·have:=h.2;omega
      replace hgt:=hid hgt
      go_wp2_with fail
      refine (rdigit_x c true hd.out _).mono ?_
      rintro e w1 ⟨rfl,rfl⟩
      go_wp2
      go_round
      case rel=>exact ⟨k+1,V,true,by omega,by go_num,rfl,rfl,hV,hall2.out,Or.inr ⟨rfl,hgt.out⟩⟩
      case measure=>simp [RowKit.intOf] <;> omega
  ·obtain rfl:k=N+3:=by omega
   have hkI:¬ ((N+3:Nat):Int)<(N:Int)+3:=by omega
   have hR:=hend.out (fun j c h1 h2=>hall.out j c (by have:=(List.getElem?_eq_some_iff.mp h2).1;omega) h1 h2)
   cases O
   ·have hVv:V=valL (proc t N (N+3)):=by
     rcases hrel.out with h | h
     ·exact h.2
     ·cases h.1
    rw [←hVv] at hR
    by_cases hVM:V≤1000000000000000
    ·rw [if_pos hVM] at hR
     have hVI:¬ (1000000000000000:Int)<(V:Int):=by omega
     have hVd:decide ((1000000000000000:Int)<(V:Int))=false:=decide_eq_false hVI
     replace hVv:=hid hVv
     unfold sgnV at hR
     by_cases hV0:V=0
     ·subst hV0
      simp only [if_true] at hR
      obtain⟨rfl,rfl⟩:=Prod.mk.inj hR
      go_wp2
      go_ret2
      exact⟨rfl,rfl⟩
     ·simp only [if_true,if_neg hV0] at hR
      obtain⟨rfl,rfl⟩:=Prod.mk.inj hR
      have hV0I:((V:Int)==0)=false:=by simp;omega
      have hwn:wrap64 (-(V:Int)) = -(V:Int):=by unfold wrap64;omega
      go_wp2
      go_ret2
      exact⟨rfl,rfl⟩
    ·rw [if_neg hVM] at hR
     obtain⟨rfl,rfl⟩:=Prod.mk.inj hR
     have hVI:(1000000000000000:Int)<(V:Int):=by omega
     replace hVv:=hid hVv
     go_wp2
     go_ret2
     exact⟨rfl,rfl⟩
   ·have hgt:¬ valL (proc t N (N+3))≤1000000000000000:=by
     rcases hrel.out with h | h
     ·cases h.1
     ·have:=h.2;omega
    rw [if_neg hgt] at hR
    obtain⟨rfl,rfl⟩:=Prod.mk.inj hR
    replace hgt:Hid True:=trivial
    go_wp2
    go_ret2
    exact⟨rfl,rfl⟩
theorem rtm_short_p (t:List UInt8)(w:World)(h:t.length<4)(h0:0<t.length)(x:UInt8)(hix0:∀ h,(⟨t.toArray⟩:ByteArray)[0]'h=x)(hx45:((x.toNat:Int)==45)=false) :
  Calls Tryz.prog 140 #[.string ⟨t.toArray⟩] w fun e w'=>e=.returned (.tuple #[.int .i64 0,.int .i64 4])∧w'=w:=by
 have hI:(t.length:Int)-3<1:=by omega
 have h0I:(0:Int)<(t.length:Int):=by omega
 have hw:wrap64 ((t.length:Int)-3)=(t.length:Int)-3:=by unfold wrap64;omega
 go_enter Tryz.func140,Tryz.ntmps140
 go_wp2
 go_ret2
 exact⟨rfl,rfl⟩
theorem rtm_long_p (t:List UInt8)(w:World)(h:23<t.length)(h2:t.length≤20000)(x:UInt8)(hix0:∀ h,(⟨t.toArray⟩:ByteArray)[0]'h=x)(hx45:((x.toNat:Int)==45)=false) :
  Calls Tryz.prog 140 #[.string ⟨t.toArray⟩] w fun e w'=>e=.returned (.tuple #[.int .i64 0,.int .i64 4])∧w'=w:=by
 have hI:¬ (t.length:Int)-3<1:=by omega
 have h0I:(0:Int)<(t.length:Int):=by omega
 have hJ:(20:Int)<(t.length:Int)-3:=by omega
 have hw:wrap64 ((t.length:Int)-3)=(t.length:Int)-3:=by unfold wrap64;omega
 go_enter Tryz.func140,Tryz.ntmps140
 go_wp2
 go_ret2
 exact⟨rfl,rfl⟩
theorem rtm_nodot_p (t:List UInt8)(w:World)(N:Nat)(htl:t.length=N+3)(hN1:1≤N)(hN20:N≤20)(x:UInt8)(hix0:∀ h,(⟨t.toArray⟩:ByteArray)[0]'h=x)(hx45:((x.toNat:Int)==45)=false)(c:UInt8)(hixN:∀ h,(⟨t.toArray⟩:ByteArray)[N]'h=c)(hc:((c.toNat:Int) != 46)=true) :
  Calls Tryz.prog 140 #[.string ⟨t.toArray⟩] w fun e w'=>e=.returned (.tuple #[.int .i64 0,.int .i64 4])∧w'=w:=by
 have hI:¬ (N:Int)<1:=by omega
 have hJ:¬ (20:Int)<(N:Int):=by omega
 have hNN:N<N+3:=by omega
 have hNI:(N:Int)<(N:Int)+3:=by omega
 have h03:(0:Int)<(N:Int)+3:=by omega
 go_enter Tryz.func140,Tryz.ntmps140
 go_wp2
 go_ret2
 exact⟨rfl,rfl⟩
theorem rtm_nought_p (t:List UInt8)(w:World)(N:Nat)(htl:t.length=N+3)(hN1:1≤N)(hN20:N≤20)(x:UInt8)(hix0:∀ h,(⟨t.toArray⟩:ByteArray)[0]'h=x)(hx45:((x.toNat:Int)==45)=false)(hixN:∀ h,(⟨t.toArray⟩:ByteArray)[N]'h=46)(h1:1<N)(hx48:((x.toNat:Int)==48)=true) :
  Calls Tryz.prog 140 #[.string ⟨t.toArray⟩] w fun e w'=>e=.returned (.tuple #[.int .i64 0,.int .i64 4])∧w'=w:=by
 have hI:¬ (N:Int)<1:=by omega
 have hJ:¬ (20:Int)<(N:Int):=by omega
 have hNN:N<N+3:=by omega
 have hNI:(N:Int)<(N:Int)+3:=by omega
 have h03:(0:Int)<(N:Int)+3:=by omega
 have h1I:(1:Int)<(N:Int):=by omega
 go_enter Tryz.func140,Tryz.ntmps140
 go_wp2
 go_ret2
 exact⟨rfl,rfl⟩
theorem rtm_loop_pa (t:List UInt8)(w:World)(N:Nat)(htl:t.length=N+3)(hN1:1≤N)(hN20:N≤20)(x:UInt8)(hix0:∀ h,(⟨t.toArray⟩:ByteArray)[0]'h=x)(hx45:((x.toNat:Int)==45)=false)(hixN:∀ h,(⟨t.toArray⟩:ByteArray)[N]'h=46)(hk1:¬ 1<N)
  (RV RC:Int) (hbad:∀ k c,k≠N→t[k]?=some c→isD c=false→RV=0∧RC=4)
  (hend:(∀ j c,j≠N→t[j]?=some c→isD c=true)→(RV,RC)=if valL (proc t N (N+3))≤1000000000000000 then sgnV false (valL (proc t N (N+3))) else (0,3)) :
  Calls Tryz.prog 140 #[.string ⟨t.toArray⟩] w fun e w'=>e=.returned (.tuple #[.int .i64 RV,.int .i64 RC])∧w'=w:=by
 replace hbad:=hid hbad
 replace hend:=hid hend
 have hI:¬ (N:Int)<1:=by omega
 have hJ:¬ (20:Int)<(N:Int):=by omega
 have hNN:N<N+3:=by omega
 have hNI:(N:Int)<(N:Int)+3:=by omega
 have h03:(0:Int)<(N:Int)+3:=by omega
 have h1I:¬ (1:Int)<(N:Int):=by omega
 go_enter Tryz.func140,Tryz.ntmps140
 go_wp2
 go_loop [6,7,8] (fun v o i=>∃ (k V:Nat) (O:Bool),k≤N+3∧i=.int .i64 (k:Int)∧v=.int .i64 (V:Int)∧o=.bool O∧V≤10000000000000009∧Hid (∀ j c,j<k→j≠N→t[j]?=some c→isD c=true)∧Hid ((O=false∧V=valL (proc t N k))∨(O=true∧1000000000000000<valL (proc t N k)))) (fun _ _ i=>N+3-(RowKit.intOf i).toNat)
 case atStart=>exact ⟨0,0,false,Nat.zero_le _,rfl,rfl,rfl,Nat.zero_le _,fun j c hj=>absurd hj (Nat.not_lt_zero _),Or.inl ⟨rfl,by rw [proc_zero];rfl⟩⟩
 case round =>
  obtain⟨k,V,O,hk,rfl,rfl,rfl,hV,hall,hrel⟩:=hrel
  by_cases hkl:k<N+3
  ·have hkI:(k:Int)<(N:Int)+3:=by omega
   have hk0:(0:Int)≤(k:Int):=by omega
   have hwk:wrap64 ((k:Int)+1)=(k:Int)+1:=by unfold wrap64;omega
   by_cases hkN:k=N
   ·subst hkN
    go_wp2
    go_round
    case rel=>exact ⟨k+1,V,O,by omega,by go_num,rfl,rfl,hV,(fun j c h1 h2 h3=>hall.out j c (by omega) h2 h3),by rw [proc_skip];exact hrel.out⟩
    case measure=>simp [RowKit.intOf] <;> omega
   ·have hkNb:((k:Int)==(N:Int))=false:=by simp;omega
    obtain⟨c,hc⟩:∃ c,t[k]?=some c:=⟨t[k]'(by omega),List.getElem?_eq_getElem _⟩
    have hixk:∀ h,(⟨t.toArray⟩:ByteArray)[k]'h=c:=by
     intro h
     have h2:=Lib.getElem_mk t k h
     rw [hc] at h2
     exact (Option.some.inj h2).symm
    cases hd:isD c
    ·obtain ⟨rfl,rfl⟩:=hbad.out k c hkN hc hd
     replace hd:=hid hd
     replace hc:=hid hc
     go_wp2_with fail
     refine (rdigit_x c false hd.out _).mono ?_
     rintro e w1 ⟨rfl,rfl⟩
     go_wp2
     go_ret2
     exact⟨rfl,rfl⟩
    ·have hps:=proc_step t N k c hkN hc
     have hr:=isD_range hd
     have hmore:=valL_more (proc t N k) c
     have hall2:∀ j c',j<k+1→j≠N→t[j]?=some c'→isD c'=true:=fun j c' h1 h2 h3=>by
      by_cases h4:j=k
      ·subst h4;rw [hc] at h3;rw [←Option.some.inj h3];exact hd
      ·exact hall.out j c' (by omega) h2 h3
     have hsn:=valL_snoc (proc t N k) c
     rw [←hps] at hmore hsn
     replace hd:=hid hd
     replace hc:=hid hc
     replace hps:=hid hps
     replace hall2:=hid hall2
     replace hmore:=hid hmore
     replace hsn:=hid hsn
     cases O
     ·have hVv:V=valL (proc t N k):=by
       rcases hrel.out with h | h
       ·exact h.2
       ·cases h.1
      by_cases hVM:V≤1000000000000000
      ·have hVI:¬ (1000000000000000:Int)<(V:Int):=by omega
       have hVd:decide ((1000000000000000:Int)<(V:Int))=false:=decide_eq_false hVI
       obtain⟨Y,hY⟩:∃ Y:Nat,Y=10 * V+(c.toNat-48):=⟨_,rfl⟩
       have hw8:IntKind.u8.wrap ((c.toNat:Int)-48)=((c.toNat-48:Nat):Int):=by rw [IntKind.wrap_u8];omega
       obtain⟨Z,hZ⟩:∃ Z:Nat,Z=c.toNat-48:=⟨_,rfl⟩
       rw [←hZ] at hw8 hY
       have hZ9:Z≤9:=by omega
       have hwY:wrap64 (10 * (V:Int)+(Z:Int))=(Y:Int):=by unfold wrap64;omega
       have hw10:wrap64 (10 * (V:Int))=10 * (V:Int):=by unfold wrap64;omega
       have hYI:10 * (V:Int)+(Z:Int)=(Y:Int):=by omega
       have hYv:Y=valL (proc t N (k+1)):=by rw [hsn.out,hY,hVv,hZ]
       replace hYv:=hid hYv
       replace hY:=hid hY
       replace hVv:=hid hVv
       replace hZ:=hid hZ
       go_wp2_with fail
       refine (rdigit_x c true hd.out _).mono ?_
       rintro e w1 ⟨rfl,rfl⟩
       go_wp2
       go_round
       case rel=>exact ⟨k+1,Y,false,by omega,by go_num,rfl,rfl,by have:=hY.out;omega,hall2.out,Or.inl ⟨rfl,hYv.out⟩⟩
       case measure=>simp [RowKit.intOf] <;> omega
      ·have hVI:(1000000000000000:Int)<(V:Int):=by omega
       have hgt:1000000000000000<valL (proc t N (k+1)):=by have:=hmore.out;omega
       replace hVv:=hid hVv
       replace hgt:=hid hgt
       go_wp2_with fail
       refine (rdigit_x c true hd.out _).mono ?_
       rintro e w1 ⟨rfl,rfl⟩
       go_wp2
       go_round
       case rel=>exact ⟨k+1,V,true,by omega,by go_num,rfl,rfl,hV,hall2.out,Or.inr ⟨rfl,hgt.out⟩⟩
       case measure=>simp [RowKit.intOf] <;> omega
     ·have hgt:1000000000000000<valL (proc t N (k+1)):=by
       have:=hmore.out
       rcases hrel.out with h | h
       ·cases h.1
       ·have:=h.2;omega
      replace hgt:=hid hgt
      go_wp2_with fail
      refine (rdigit_x c true hd.out _).mono ?_
      rintro e w1 ⟨rfl,rfl⟩
      go_wp2
      go_round
      case rel=>exact ⟨k+1,V,true,by omega,by go_num,rfl,rfl,hV,hall2.out,Or.inr ⟨rfl,hgt.out⟩⟩
      case measure=>simp [RowKit.intOf] <;> omega
  ·obtain rfl:k=N+3:=by omega
   have hkI:¬ ((N+3:Nat):Int)<(N:Int)+3:=by omega
   have hR:=hend.out (fun j c h1 h2=>hall.out j c (by have:=(List.getElem?_eq_some_iff.mp h2).1;omega) h1 h2)
   cases O
   ·have hVv:V=valL (proc t N (N+3)):=by
     rcases hrel.out with h | h
     ·exact h.2
     ·cases h.1
    rw [←hVv] at hR
    by_cases hVM:V≤1000000000000000
    ·rw [if_pos hVM] at hR
     have hVI:¬ (1000000000000000:Int)<(V:Int):=by omega
     have hVd:decide ((1000000000000000:Int)<(V:Int))=false:=decide_eq_false hVI
     replace hVv:=hid hVv
     unfold sgnV at hR
     simp only [Bool.false_eq_true,if_false] at hR
     obtain⟨rfl,rfl⟩:=Prod.mk.inj hR
     go_wp2
     go_ret2
     exact⟨rfl,rfl⟩
    ·rw [if_neg hVM] at hR
     obtain⟨rfl,rfl⟩:=Prod.mk.inj hR
     have hVI:(1000000000000000:Int)<(V:Int):=by omega
     replace hVv:=hid hVv
     go_wp2
     go_ret2
     exact⟨rfl,rfl⟩
   ·have hgt:¬ valL (proc t N (N+3))≤1000000000000000:=by
     rcases hrel.out with h | h
     ·cases h.1
     ·have:=h.2;omega
    rw [if_neg hgt] at hR
    obtain⟨rfl,rfl⟩:=Prod.mk.inj hR
    replace hgt:Hid True:=trivial
    go_wp2
    go_ret2
    exact⟨rfl,rfl⟩
theorem rtm_loop_pb (t:List UInt8)(w:World)(N:Nat)(htl:t.length=N+3)(hN1:1≤N)(hN20:N≤20)(x:UInt8)(hix0:∀ h,(⟨t.toArray⟩:ByteArray)[0]'h=x)(hx45:((x.toNat:Int)==45)=false)(hixN:∀ h,(⟨t.toArray⟩:ByteArray)[N]'h=46)(h1:1<N)(hx48:((x.toNat:Int)==48)=false)
  (RV RC:Int) (hbad:∀ k c,k≠N→t[k]?=some c→isD c=false→RV=0∧RC=4)
  (hend:(∀ j c,j≠N→t[j]?=some c→isD c=true)→(RV,RC)=if valL (proc t N (N+3))≤1000000000000000 then sgnV false (valL (proc t N (N+3))) else (0,3)) :
  Calls Tryz.prog 140 #[.string ⟨t.toArray⟩] w fun e w'=>e=.returned (.tuple #[.int .i64 RV,.int .i64 RC])∧w'=w:=by
 replace hbad:=hid hbad
 replace hend:=hid hend
 have hI:¬ (N:Int)<1:=by omega
 have hJ:¬ (20:Int)<(N:Int):=by omega
 have hNN:N<N+3:=by omega
 have hNI:(N:Int)<(N:Int)+3:=by omega
 have h03:(0:Int)<(N:Int)+3:=by omega
 have h1I:(1:Int)<(N:Int):=by omega
 go_enter Tryz.func140,Tryz.ntmps140
 go_wp2
 go_loop [6,7,8] (fun v o i=>∃ (k V:Nat) (O:Bool),k≤N+3∧i=.int .i64 (k:Int)∧v=.int .i64 (V:Int)∧o=.bool O∧V≤10000000000000009∧Hid (∀ j c,j<k→j≠N→t[j]?=some c→isD c=true)∧Hid ((O=false∧V=valL (proc t N k))∨(O=true∧1000000000000000<valL (proc t N k)))) (fun _ _ i=>N+3-(RowKit.intOf i).toNat)
 case atStart=>exact ⟨0,0,false,Nat.zero_le _,rfl,rfl,rfl,Nat.zero_le _,fun j c hj=>absurd hj (Nat.not_lt_zero _),Or.inl ⟨rfl,by rw [proc_zero];rfl⟩⟩
 case round =>
  obtain⟨k,V,O,hk,rfl,rfl,rfl,hV,hall,hrel⟩:=hrel
  by_cases hkl:k<N+3
  ·have hkI:(k:Int)<(N:Int)+3:=by omega
   have hk0:(0:Int)≤(k:Int):=by omega
   have hwk:wrap64 ((k:Int)+1)=(k:Int)+1:=by unfold wrap64;omega
   by_cases hkN:k=N
   ·subst hkN
    go_wp2
    go_round
    case rel=>exact ⟨k+1,V,O,by omega,by go_num,rfl,rfl,hV,(fun j c h1 h2 h3=>hall.out j c (by omega) h2 h3),by rw [proc_skip];exact hrel.out⟩
    case measure=>simp [RowKit.intOf] <;> omega
   ·have hkNb:((k:Int)==(N:Int))=false:=by simp;omega
    obtain⟨c,hc⟩:∃ c,t[k]?=some c:=⟨t[k]'(by omega),List.getElem?_eq_getElem _⟩
    have hixk:∀ h,(⟨t.toArray⟩:ByteArray)[k]'h=c:=by
     intro h
     have h2:=Lib.getElem_mk t k h
     rw [hc] at h2
     exact (Option.some.inj h2).symm
    cases hd:isD c
    ·obtain ⟨rfl,rfl⟩:=hbad.out k c hkN hc hd
     replace hd:=hid hd
     replace hc:=hid hc
     go_wp2_with fail
     refine (rdigit_x c false hd.out _).mono ?_
     rintro e w1 ⟨rfl,rfl⟩
     go_wp2
     go_ret2
     exact⟨rfl,rfl⟩
    ·have hps:=proc_step t N k c hkN hc
     have hr:=isD_range hd
     have hmore:=valL_more (proc t N k) c
     have hall2:∀ j c',j<k+1→j≠N→t[j]?=some c'→isD c'=true:=fun j c' h1 h2 h3=>by
      by_cases h4:j=k
      ·subst h4;rw [hc] at h3;rw [←Option.some.inj h3];exact hd
      ·exact hall.out j c' (by omega) h2 h3
     have hsn:=valL_snoc (proc t N k) c
     rw [←hps] at hmore hsn
     replace hd:=hid hd
     replace hc:=hid hc
     replace hps:=hid hps
     replace hall2:=hid hall2
     replace hmore:=hid hmore
     replace hsn:=hid hsn
     cases O
     ·have hVv:V=valL (proc t N k):=by
       rcases hrel.out with h | h
       ·exact h.2
       ·cases h.1
      by_cases hVM:V≤1000000000000000
      ·have hVI:¬ (1000000000000000:Int)<(V:Int):=by omega
       have hVd:decide ((1000000000000000:Int)<(V:Int))=false:=decide_eq_false hVI
       obtain⟨Y,hY⟩:∃ Y:Nat,Y=10 * V+(c.toNat-48):=⟨_,rfl⟩
       have hw8:IntKind.u8.wrap ((c.toNat:Int)-48)=((c.toNat-48:Nat):Int):=by rw [IntKind.wrap_u8];omega
       obtain⟨Z,hZ⟩:∃ Z:Nat,Z=c.toNat-48:=⟨_,rfl⟩
       rw [←hZ] at hw8 hY
       have hZ9:Z≤9:=by omega
       have hwY:wrap64 (10 * (V:Int)+(Z:Int))=(Y:Int):=by unfold wrap64;omega
       have hw10:wrap64 (10 * (V:Int))=10 * (V:Int):=by unfold wrap64;omega
       have hYI:10 * (V:Int)+(Z:Int)=(Y:Int):=by omega
       have hYv:Y=valL (proc t N (k+1)):=by rw [hsn.out,hY,hVv,hZ]
       replace hYv:=hid hYv
       replace hY:=hid hY
       replace hVv:=hid hVv
       replace hZ:=hid hZ
       go_wp2_with fail
       refine (rdigit_x c true hd.out _).mono ?_
       rintro e w1 ⟨rfl,rfl⟩
       go_wp2
       go_round
       case rel=>exact ⟨k+1,Y,false,by omega,by go_num,rfl,rfl,by have:=hY.out;omega,hall2.out,Or.inl ⟨rfl,hYv.out⟩⟩
       case measure=>simp [RowKit.intOf] <;> omega
      ·have hVI:(1000000000000000:Int)<(V:Int):=by omega
       have hgt:1000000000000000<valL (proc t N (k+1)):=by have:=hmore.out;omega
       replace hVv:=hid hVv
       replace hgt:=hid hgt
       go_wp2_with fail
       refine (rdigit_x c true hd.out _).mono ?_
       rintro e w1 ⟨rfl,rfl⟩
       go_wp2
       go_round
       case rel=>exact ⟨k+1,V,true,by omega,by go_num,rfl,rfl,hV,hall2.out,Or.inr ⟨rfl,hgt.out⟩⟩
       case measure=>simp [RowKit.intOf] <;> omega
     ·have hgt:1000000000000000<valL (proc t N (k+1)):=by
       have:=hmore.out
       rcases hrel.out with h | h
       ·cases h.1
       ·have:=h.2;omega
      replace hgt:=hid hgt
      go_wp2_with fail
      refine (rdigit_x c true hd.out _).mono ?_
      rintro e w1 ⟨rfl,rfl⟩
      go_wp2
      go_round
      case rel=>exact ⟨k+1,V,true,by omega,by go_num,rfl,rfl,hV,hall2.out,Or.inr ⟨rfl,hgt.out⟩⟩
      case measure=>simp [RowKit.intOf] <;> omega
  ·obtain rfl:k=N+3:=by omega
   have hkI:¬ ((N+3:Nat):Int)<(N:Int)+3:=by omega
   have hR:=hend.out (fun j c h1 h2=>hall.out j c (by have:=(List.getElem?_eq_some_iff.mp h2).1;omega) h1 h2)
   cases O
   ·have hVv:V=valL (proc t N (N+3)):=by
     rcases hrel.out with h | h
     ·exact h.2
     ·cases h.1
    rw [←hVv] at hR
    by_cases hVM:V≤1000000000000000
    ·rw [if_pos hVM] at hR
     have hVI:¬ (1000000000000000:Int)<(V:Int):=by omega
     have hVd:decide ((1000000000000000:Int)<(V:Int))=false:=decide_eq_false hVI
     replace hVv:=hid hVv
     unfold sgnV at hR
     simp only [Bool.false_eq_true,if_false] at hR
     obtain⟨rfl,rfl⟩:=Prod.mk.inj hR
     go_wp2
     go_ret2
     exact⟨rfl,rfl⟩
    ·rw [if_neg hVM] at hR
     obtain⟨rfl,rfl⟩:=Prod.mk.inj hR
     have hVI:(1000000000000000:Int)<(V:Int):=by omega
     replace hVv:=hid hVv
     go_wp2
     go_ret2
     exact⟨rfl,rfl⟩
   ·have hgt:¬ valL (proc t N (N+3))≤1000000000000000:=by
     rcases hrel.out with h | h
     ·cases h.1
     ·have:=h.2;omega
    rw [if_neg hgt] at hR
    obtain⟨rfl,rfl⟩:=Prod.mk.inj hR
    replace hgt:Hid True:=trivial
    go_wp2
    go_ret2
    exact⟨rfl,rfl⟩
theorem parted (t:List UInt8)(N:Nat)(h:t.length=N+3):∃ D c F,t=D++c::F∧D.length=N∧F.length=2:=by
 have h1:N<t.length:=by omega
 refine⟨t.take N,t[N],t.drop (N+1),?_,by simp;omega,by simp;omega⟩
 rw [List.getElem_cons_drop,List.take_append_drop]
theorem idx_of (t:List UInt8)(k:Nat)(c:UInt8)(hc:t[k]?=some c)(h:k<(⟨t.toArray⟩:ByteArray).size):(⟨t.toArray⟩:ByteArray)[k]'h=c:=by
 have h2:=Lib.getElem_mk t k h
 rw [hc] at h2
 exact (Option.some.inj h2).symm
theorem none_len (l t:List UInt8)(ht:trimPrefix l [45]=t)(h:t.length<4∨23<t.length):takeM l=(0,4):=by
 apply takeM_none
 rintro⟨D,F,h1,h2,h3,_⟩
 obtain⟨o1,o2,_,_⟩:=okWhole_spec D 20 h3
 rw [ht] at h1
 have:=congrArg List.length h1
 simp at this
 have:0<D.length:=List.length_pos_iff.mpr o2
 omega
theorem none_dot (l D F:List UInt8)(c:UInt8)(ht:trimPrefix l [45]=D++c::F)(hF:F.length=2)(hc:c≠46):takeM l=(0,4):=by
 apply takeM_none
 rintro⟨D',F',h1,h2,h3,_⟩
 rw [ht] at h1
 exact hc (same_parts h1 (by omega)).2.1
theorem none_nought (l D F:List UInt8)(ht:trimPrefix l [45]=D++46::F)(hF:F.length=2)(h1:1<D.length)(h2:D.head?=some 48):takeM l=(0,4):=by
 apply takeM_none
 rintro⟨D',F',e1,e2,e3,_⟩
 rw [ht] at e1
 obtain⟨rfl,_,rfl⟩:=same_parts e1 (by omega)
 rcases (okWhole_spec D 20 e3).2.2.2 with k | k
 ·rw [k] at h1;simp at h1
 ·exact k h2
theorem none_digit (l D F:List UInt8)(ht:trimPrefix l [45]=D++46::F)(hF:F.length=2)(k:Nat)(c:UInt8)(hk:k≠D.length)(hc:(D++46::F)[k]?=some c)(hd:isD c=false):takeM l=(0,4):=by
 apply takeM_none
 rintro⟨D',F',e1,e2,e3,e4⟩
 rw [ht] at e1
 obtain⟨rfl,_,rfl⟩:=same_parts e1 (by omega)
 have hDa:=(okWhole_spec D 20 e3).2.2.1
 have hFa:F.all isD=true:=by unfold digOnly at e4;simp only [Bool.and_eq_true] at e4;exact e4.2
 have:c∈D∨c∈F:=by
  rcases Nat.lt_or_ge k D.length with h | h
  ·left
   rw [List.getElem?_append_left h] at hc
   exact List.mem_of_getElem? hc
  ·right
   rw [List.getElem?_append_right h,show k-D.length=(k-D.length-1)+1 by omega,List.getElem?_cons_succ] at hc
   exact List.mem_of_getElem? hc
 rcases this with h | h
 ·have:=all_mem hDa h;rw [hd] at this;cases this
 ·have:=all_mem hFa h;rw [hd] at this;cases this
theorem some_end (l D F:List UInt8)(ht:trimPrefix l [45]=D++46::F)(hF:F.length=2)(hD1:1≤D.length)(hD2:D.length≤20)(hh:¬ (1<D.length∧D.head?=some 48))
  (hall:∀ j c,j≠D.length→(D++46::F)[j]?=some c→isD c=true) :
  takeM l=if valL (proc (D++46::F) D.length (D.length+3))≤1000000000000000 then sgnV (hasPrefix l [45]) (valL (proc (D++46::F) D.length (D.length+3))) else (0,3):=by
 rw [proc_all D F 46 hF]
 have hDa:D.all isD=true:=by
  rw [List.all_eq_true]
  intro x hx
  obtain⟨i,hi⟩:=List.getElem?_of_mem hx
  have hlt:=(List.getElem?_eq_some_iff.mp hi).1
  exact hall i x (by omega) (by rw [List.getElem?_append_left hlt];exact hi)
 have hFa:F.all isD=true:=by
  rw [List.all_eq_true]
  intro x hx
  obtain⟨i,hi⟩:=List.getElem?_of_mem hx
  refine hall (D.length+1+i) x (by omega) ?_
  rw [List.getElem?_append_right (by omega),show D.length+1+i-D.length=i+1 by omega,List.getElem?_cons_succ]
  exact hi
 apply takeM_some l D F ht hF _ hFa
 unfold okWhole digOnly headOk
 have hne:D≠[]:=by intro e;rw [e] at hD1;simp at hD1
 simp only [Bool.and_eq_true,decide_eq_true_eq,Bool.or_eq_true,beq_iff_eq,bne_iff_ne,Bool.not_eq_true']
 refine⟨⟨hD2,by simpa using hne,hDa⟩,?_⟩
 by_cases h48:D.head?=some 48
 ·left
  have h1:D.length=1:=by
   rcases Nat.lt_or_ge 1 D.length with k | k
   ·exact absurd ⟨k,h48⟩ hh
   ·omega
  cases D with
  | nil=>exact absurd rfl hne
  | cons a b =>
   have hb:b = []:=by simp at h1;exact h1
   subst hb
   simp at h48;rw [h48]
 ·right;exact h48
theorem toNat_ne {x c:UInt8}(h:x≠c):((x.toNat:Int)==(c.toNat:Int))=false:=by
 simp
 intro e
 exact h (UInt8.toNat_inj.mp (by omega))
theorem rtakeMoney_c (l:List UInt8)(w:World)(hl:l.length≤20000) :
  Calls Tryz.prog 140 #[.string ⟨l.toArray⟩] w fun e w'=>e=.returned (.tuple #[.int .i64 (takeM l).1,.int .i64 (takeM l).2])∧w'=w:=by
 cases l with
 | nil=>exact rtm_nil w
 | cons a r =>
  by_cases ha:a=45
  ·subst ha
   have ht:trimPrefix (45::r) [45]=r:=by simp [trimPrefix,hasPrefix,List.isPrefixOf]
   have hp:hasPrefix (45::r) [45]=true:=by simp [hasPrefix,List.isPrefixOf]
   by_cases h4:r.length<4
   ·rw [none_len _ r ht (Or.inl h4)]
    by_cases h0:r = []
    ·subst h0;exact rtm_empty_n w
    ·exact rtm_short_n r w h4 (List.length_pos_iff.mpr h0)
   by_cases h23:23<r.length
   ·rw [none_len _ r ht (Or.inr h23)]
    exact rtm_long_n r w h23 (by simp at hl;omega)
   obtain⟨N,hN⟩:∃ N,r.length=N+3:=⟨r.length-3,by omega⟩
   obtain⟨D,c,F,rfl,hD,hF⟩:=parted r N hN
   subst hD
   have hcN:(D++c::F)[D.length]?=some c:=by rw [List.getElem?_append_right (by omega)];simp
   by_cases hc:c=46
   ·subst hc
    cases D with
    | nil=>simp [hF] at h4
    | cons x D' =>
     have hx0:(x::D'++46::F)[0]?=some x:=rfl
     by_cases hn:1<(x::D').length∧(x::D').head?=some 48
     ·rw [none_nought _ _ F ht hF hn.1 hn.2]
      have hx48:x=48:=by simpa using hn.2
      exact rtm_nought_n _ w _ hN (by simp) (by omega) x (idx_of _ _ _ hx0) (idx_of _ _ _ hcN) hn.1 (by rw [hx48];rfl)
     ·have hb:∀ k c,k≠(x::D').length→(x::D'++46::F)[k]?=some c→isD c=false→(takeM (45::(x::D'++46::F))).1=0∧(takeM (45::(x::D'++46::F))).2=4:=by
       intro k c h1 h2 h3
       rw [none_digit _ _ F ht hF k c h1 h2 h3];exact ⟨rfl,rfl⟩
      have he:=fun hall=>some_end _ _ F ht hF (by simp) (by omega) hn hall
      rw [hp] at he
      by_cases h1:1<(x::D').length
      ·exact rtm_loop_nb _ w _ hN (by simp) (by omega) x (idx_of _ _ _ hx0) (idx_of _ _ _ hcN) h1 (toNat_ne (c:=48) (fun e=>hn ⟨h1,by rw [e];rfl⟩)) _ _ hb he
      ·exact rtm_loop_na _ w _ hN (by simp) (by omega) x (idx_of _ _ _ hx0) (idx_of _ _ _ hcN) h1 _ _ hb he
   ·rw [none_dot _ D F c ht hF hc]
    exact rtm_nodot_n _ w _ hN (by omega) (by omega) c (idx_of _ _ _ hcN) (by have:=toNat_ne hc;simpa [bne] using this)
  ·have ht:trimPrefix (a::r) [45]=a::r:=by
    unfold trimPrefix hasPrefix
    have:([45]:List UInt8).isPrefixOf (a::r)=false:=by
     simp [List.isPrefixOf];exact fun e=>ha e.symm
    rw [this];rfl
   have hp:hasPrefix (a::r) [45]=false:=by simp [hasPrefix,List.isPrefixOf];exact fun e=>ha e.symm
   have h45:=toNat_ne (c:=45) ha
   have ha0:(a::r)[0]?=some a:=rfl
   generalize hg:a::r=t at *
   have htp:0<t.length:=by rw [←hg];simp
   have hti:=idx_of t 0 a ha0
   by_cases h4:t.length<4
   ·rw [none_len _ t ht (Or.inl h4)]
    exact rtm_short_p t w h4 htp a hti h45
   by_cases h23:23<t.length
   ·rw [none_len _ t ht (Or.inr h23)]
    exact rtm_long_p t w h23 hl a hti h45
   obtain⟨N,hN⟩:∃ N,t.length=N+3:=⟨t.length-3,by omega⟩
   obtain⟨D,c,F,hD0,hD,hF⟩:=parted t N hN
   subst hD
   have hcN:t[D.length]?=some c:=by rw [hD0,List.getElem?_append_right (by omega)];simp
   rw [hD0] at ht
   by_cases hc:c=46
   ·subst hc
    cases D with
    | nil=>simp [hD0,hF] at h4
    | cons x D' =>
     have hxa:x=a:=by rw [hD0] at ha0;simpa using ha0
     subst hxa
     by_cases hn:1<(x::D').length∧(x::D').head?=some 48
     ·have hz:=none_nought t _ F (by rw [hD0];exact ht) hF hn.1 hn.2
      rw [hz]
      have hx48:x=48:=by simpa using hn.2
      exact rtm_nought_p _ w _ hN (by simp) (by omega) x hti h45 (idx_of _ _ _ hcN) hn.1 (by rw [hx48];rfl)
     ·have hb:∀ k c,k≠(x::D').length→t[k]?=some c→isD c=false→(takeM t).1=0∧(takeM t).2=4:=by
       intro k c h1 h2 h3
       rw [none_digit t _ F (by rw [hD0];exact ht) hF k c h1 (by rw [←hD0];exact h2) h3];exact ⟨rfl,rfl⟩
      have he:(∀ j c,j≠(x::D').length→t[j]?=some c→isD c=true)→takeM t=if valL (proc t (x::D').length ((x::D').length+3))≤1000000000000000 then sgnV false (valL (proc t (x::D').length ((x::D').length+3))) else (0,3):=by
       intro hall
       have:=some_end t _ F (by rw [hD0];exact ht) hF (by simp) (by omega) hn (fun j c h1 h2=>hall j c h1 (by rw [hD0];exact h2))
       rw [hp,←hD0] at this
       exact this
      by_cases h1:1<(x::D').length
      ·exact rtm_loop_pb _ w _ hN (by simp) (by omega) x hti h45 (idx_of _ _ _ hcN) h1 (toNat_ne (c:=48) (fun e=>hn ⟨h1,by rw [e];rfl⟩)) _ _ hb he
      ·exact rtm_loop_pa _ w _ hN (by simp) (by omega) x hti h45 (idx_of _ _ _ hcN) h1 _ _ hb he
   ·rw [none_dot t D F c (by rw [hD0];exact ht) hF hc]
    exact rtm_nodot_p _ w _ hN (by omega) (by omega) a hti h45 c (idx_of _ _ _ hcN) (by have:=toNat_ne hc;simpa [bne] using this)
def stepR (n k:Nat)(c:UInt8)(v d:Nat)(p:Int):Option (Nat×Nat×Int) :=
 if c=45∧k=0 then some (v,d,p)
 else if c=37∧k+1=n then some (v,d,p)
 else if c=46∧p<0 then some (v,d,(d:Int))
 else if isD c=true∧d<12 then some (10 * v+(c.toNat-48),d+1,p)
 else none
def runR (n:Nat):Nat→List UInt8→Nat→Nat→Int→Option (Nat×Nat×Int)
 | _,[],v,d,p=>some (v,d,p)
 | k,c::t,v,d,p=>(stepR n k c v d p).bind fun σ=>runR n (k+1) t σ.1 σ.2.1 σ.2.2
def tens:Nat→Int→Int
 | 0,v=>v
 | m+1,v=>tens m (wrap64 (10 * v))
def pt (d:Nat)(p:Int):Int:=if p<0 then (d:Int) else p
theorem runR_digits (n:Nat)(X:List UInt8)(t:List UInt8)(hX:X.all isD=true):∀ k v d p,d+X.length≤12 →
  runR n k (X++t) v d p=runR n (k+X.length) t (v * 10 ^ X.length+valL X) (d+X.length) p:=by
 induction X with
 | nil=>intro k v d p _;simp [valL]
 | cons x X ih =>
  intro k v d p hd
  simp only [List.all_cons,Bool.and_eq_true] at hX
  have hr:=isD_range hX.1
  have n45:x≠45:=fun e=>by rw [e] at hr;revert hr;decide
  have n37:x≠37:=fun e=>by rw [e] at hr;revert hr;decide
  have n46:x≠46:=fun e=>by rw [e] at hr;revert hr;decide
  simp only [List.length_cons] at hd
  have hs:stepR n k x v d p=some (10 * v+(x.toNat-48),d+1,p):=by
   unfold stepR
   rw [if_neg (fun h=>n45 h.1),if_neg (fun h=>n37 h.1),if_neg (fun h=>n46 h.1),if_pos ⟨hX.1,by omega⟩]
  rw [List.cons_append,runR,hs,Option.bind_some]
  dsimp only
  rw [ih hX.2 _ _ _ _ (by omega),List.length_cons,valL_cons,Nat.pow_succ]
  have e1:(10 * v+(x.toNat-48)) * 10 ^ X.length+valL X=v * (10 ^ X.length * 10)+((x.toNat-48) * 10 ^ X.length+valL X):=by
   rw [Nat.add_mul,Nat.mul_comm 10 v,Nat.mul_assoc,Nat.mul_comm 10];omega
  rw [e1,show k+1+X.length=k+(X.length+1) by omega,show d+1+X.length=d+(X.length+1) by omega]
theorem runR_end (n k v d:Nat)(p:Int)(h:k+1=n)(hk:k≠0∨True):runR n k [37] v d p=some (v,d,p):=by
 have hs:stepR n k 37 v d p=some (v,d,p):=by
  unfold stepR
  rw [if_neg (fun h=>absurd h.1 (by decide)),if_pos ⟨rfl,h⟩]
 rw [runR,hs,Option.bind_some,runR]
theorem runR_dot (n k v d:Nat)(p:Int)(t:List UInt8)(hp:p<0):runR n k (46::t) v d p=runR n (k+1) t v d (d:Int):=by
 have hs:stepR n k 46 v d p=some (v,d,(d:Int)):=by
  unfold stepR
  rw [if_neg (fun h=>absurd h.1 (by decide)),if_neg (fun h=>absurd h.1 (by decide)),if_pos ⟨rfl,hp⟩]
 rw [runR,hs,Option.bind_some]
theorem runR_sign (n:Nat)(t:List UInt8)(v d:Nat)(p:Int):runR n 0 (45::t) v d p=runR n 1 t v d p:=by
 have hs:stepR n 0 45 v d p=some (v,d,p):=by
  unfold stepR
  rw [if_pos ⟨rfl,rfl⟩]
 rw [runR,hs,Option.bind_some]
theorem tens_small:∀ (m:Nat) (v:Nat),v * 10 ^ m≤100000000000→tens m (v:Int)=((v * 10 ^ m:Nat):Int)
 | 0,v,_=>by simp [tens]
 | m+1,v,h=>by
  have e:v * 10 ^ (m+1)=(10 * v) * 10 ^ m:=by rw [Nat.pow_succ,Nat.mul_comm 10 v,Nat.mul_assoc,Nat.mul_comm 10]
  rw [e] at h ⊢
  have h1:10 * v * 1≤10 * v * 10 ^ m:=Nat.mul_le_mul_left _ (Nat.pos_of_ne_zero (by simp))
  have hw:wrap64 (10 * (v:Int))=((10 * v:Nat):Int):=by unfold wrap64;omega
  rw [tens,hw,tens_small m (10 * v) h]
theorem dec_len4 (u:Nat)(h:u≤1000):(decDigits u).length≤4:=by
 rw [Lib.decDigits_length]
 by_cases h2:u<10
 ·rw [nDigits_small h2];omega
 ·rw [nDigits_big h2]
  by_cases h3:u / 10<10
  ·rw [nDigits_small h3];omega
  ·rw [nDigits_big h3]
   by_cases h4:u / 10 / 10<10
   ·rw [nDigits_small h4];omega
   ·rw [nDigits_big h4,nDigits_small (by omega)];omega
theorem runR_rate (c:Int)(hc:c.natAbs≤10000000000):∃ V d p,runR (rateL c).length 0 (rateL c) 0 0 (-1)=some (V,d,p)∧(d:Int)-pt d p≤7∧0≤(d:Int)-pt d p∧tens (7-((d:Int)-pt d p)).toNat (V:Int)=(c.natAbs:Int):=by
 obtain⟨t1,t2⟩:=tail_zeros c.natAbs
 have t3:=tail_len c.natAbs
 have t4:=tail_all c.natAbs
 have hval:valL (decDigits (c.natAbs / 10000000)++fix 7 c.natAbs)=c.natAbs:=by
  rw [valL_append,valL_decDigits,valL_fix,fix_length];omega
 rw [←t1,←List.append_assoc,valL_append,valL_zeros',zeros_len,Nat.add_zero] at hval
 have hD:=decDigits_all (c.natAbs / 10000000)
 have hDl:=dec_len4 (c.natAbs / 10000000) (by omega)
 have main:∀ k n,n=k+(decDigits (c.natAbs / 10000000)).length+(dotL (tailL c.natAbs)).length+1 →
   ∃ V d p,runR n k (decDigits (c.natAbs / 10000000)++(dotL (tailL c.natAbs)++[37])) 0 0 (-1)=some (V,d,p)∧(d:Int)-pt d p≤7∧0≤(d:Int)-pt d p∧tens (7-((d:Int)-pt d p)).toNat (V:Int)=(c.natAbs:Int):=by
  intro k n hn
  rw [runR_digits n _ _ hD k 0 0 (-1) (by omega)]
  cases hq:tailL c.natAbs with
  | nil =>
   rw [hq] at hval hn
   simp only [dotL,List.isEmpty_nil,if_true,List.nil_append,List.length_nil] at hn ⊢
   refine⟨_,_,_,runR_end _ _ _ _ _ (by omega) (Or.inr trivial),?_,?_,?_⟩
   ·simp [pt]
   ·simp [pt]
   ·have e:pt (0+(decDigits (c.natAbs / 10000000)).length) (-1)=((0+(decDigits (c.natAbs / 10000000)).length:Nat):Int):=by simp [pt]
    rw [e,show (7-(((0+(decDigits (c.natAbs / 10000000)).length:Nat):Int)-((0+(decDigits (c.natAbs / 10000000)).length:Nat):Int))).toNat=7 by omega]
    simp only [Nat.zero_mul,Nat.zero_add,List.append_nil,List.length_nil,Nat.sub_zero] at hval ⊢
    rw [tens_small 7 _ (by omega),hval]
  | cons a b =>
   rw [hq] at hval hn t3 t4
   simp only [dotL,List.isEmpty_cons,Bool.false_eq_true,if_false,List.cons_append] at hn ⊢
   rw [runR_dot _ _ _ _ _ _ (by omega)]
   rw [show a::(b++[37])=(a::b)++[37] from rfl,runR_digits n (a::b) [37] t4 _ _ _ _ (by omega)]
   refine⟨_,_,_,runR_end _ _ _ _ _ (by simp at hn ⊢;omega) (Or.inr trivial),?_,?_,?_⟩
   ·simp [pt] at t3 ⊢;omega
   ·simp [pt];omega
   ·have e:pt (0+(decDigits (c.natAbs / 10000000)).length+(a::b).length) ((0+(decDigits (c.natAbs / 10000000)).length:Nat):Int)=((0+(decDigits (c.natAbs / 10000000)).length:Nat):Int):=by
     unfold pt;rw [if_neg (by omega)]
    rw [e,show (7-(((0+(decDigits (c.natAbs / 10000000)).length+(a::b).length:Nat):Int)-((0+(decDigits (c.natAbs / 10000000)).length:Nat):Int))).toNat=7-(a::b).length by omega]
    rw [valL_append] at hval
    simp only [Nat.zero_mul,Nat.zero_add] at hval ⊢
    rw [tens_small _ _ (by omega),hval]
 unfold rateL signL
 by_cases hneg:c<0
 ·rw [if_pos hneg]
  simp only [List.cons_append,List.nil_append]
  rw [runR_sign]
  apply main 1
  simp;omega
 ·rw [if_neg hneg]
  simp only [List.nil_append]
  apply main 0
  simp;omega
theorem takeR_cases (l:List UInt8):(∃ c,takeR l=(c,0))∨takeR l=(0,4):=by
 unfold takeR
 dsimp only
 split
 ·split
  ·unfold sgnV
   split
   ·split
    ·exact Or.inr rfl
    ·exact Or.inl ⟨_,rfl⟩
   ·exact Or.inl ⟨_,rfl⟩
  ·exact Or.inr rfl
 ·exact Or.inr rfl
def signV (l:List UInt8)(t:Int):Int:=if l.head?=some 45 then wrap64 (-t) else t
theorem rate_head (c:Int):(rateL c).head?=some 45 ↔ c<0:=by
 unfold rateL signL
 by_cases h:c<0
 ·simp [h]
 ·simp only [h,if_false,List.nil_append,iff_false]
  have h1:=decDigits_all (c.natAbs / 10000000)
  cases hd:decDigits (c.natAbs / 10000000) with
  | nil=>exact absurd hd (decDigits_ne _)
  | cons a b =>
   rw [hd] at h1
   simp only [List.all_cons,Bool.and_eq_true] at h1
   simp
   intro e
   rw [e] at h1
   have:=h1.1
   revert this;decide
theorem takeR_ref (l:List UInt8):takeR l=match runR l.length 0 l 0 0 (-1) with
  | none=>(0,4)
  | some (V,d,p) =>
   if (d:Int)-pt d p≤7∧signV l (tens (7-((d:Int)-pt d p)).toNat (V:Int))≤10000000000∧-10000000000≤signV l (tens (7-((d:Int)-pt d p)).toNat (V:Int))∧rateL (signV l (tens (7-((d:Int)-pt d p)).toNat (V:Int)))=l
   then (signV l (tens (7-((d:Int)-pt d p)).toNat (V:Int)),0) else (0,4):=by
 rcases takeR_cases l with ⟨c,hc⟩ | h4
 ·obtain ⟨h1,h2⟩:=rate_take l c hc
  obtain⟨V,d,p,r1,r2,r3,r4⟩:=runR_rate c h2
  rw [h1] at r1
  rw [r1,hc]
  dsimp only
  have hG:signV l (tens (7-((d:Int)-pt d p)).toNat (V:Int))=c:=by
   unfold signV
   have hh:=rate_head c
   rw [h1] at hh
   rw [r4]
   by_cases hn:c<0
   ·rw [if_pos (hh.mpr hn)];unfold wrap64;omega
   ·rw [if_neg (fun e=>hn (hh.mp e))];omega
  rw [hG,if_pos ⟨r2,by omega,by omega,h1⟩]
 ·rw [h4]
  split
  ·rfl
  ·rename_i V d p hr
   split
   ·rename_i hcond
    exfalso
    obtain⟨c1,c2,c3,c4⟩:=hcond
    have:=take_rate (signV l (tens (7-((d:Int)-pt d p)).toNat (V:Int)))
    rw [c4,h4,if_pos (by omega)] at this
    have:=congrArg Prod.snd this
    simp at this
   ·rfl
theorem run_step {n k:Nat}{l:List UInt8}{c:UInt8}{V d V' d':Nat}{p p':Int}{R:Option (Nat×Nat×Int)}(hc:l[k]?=some c)(hs:stepR n k c V d p=some (V',d',p'))
  (h:runR n k (l.drop k) V d p=R):runR n (k+1) (l.drop (k+1)) V' d' p'=R:=by
 have hd:l.drop k=c::l.drop (k+1):=by
  obtain⟨hk,e⟩:=List.getElem?_eq_some_iff.mp hc
  rw [←e];exact (List.getElem_cons_drop hk).symm
 rw [hd,runR,hs,Option.bind_some] at h
 exact h
theorem run_none {n k:Nat}{l:List UInt8}{c:UInt8}{V d:Nat}{p:Int}{R:Option (Nat×Nat×Int)}(hc:l[k]?=some c)(hs:stepR n k c V d p=none)
  (h:runR n k (l.drop k) V d p=R):R=none:=by
 have hd:l.drop k=c::l.drop (k+1):=by
  obtain⟨hk,e⟩:=List.getElem?_eq_some_iff.mp hc
  rw [←e];exact (List.getElem_cons_drop hk).symm
 rw [hd,runR,hs,Option.bind_none] at h
 exact h.symm
theorem run_over {n k:Nat}{l:List UInt8}{V d:Nat}{p:Int}{R:Option (Nat×Nat×Int)}(hk:l.length≤k)(h:runR n k (l.drop k) V d p=R):R=some (V,d,p):=by
 rw [List.drop_eq_nil_of_le hk,runR] at h
 exact h.symm
theorem wrap_I64 (x:Int):I64 (wrap64 x):=by
 unfold wrap64
 exact⟨by omega,by omega⟩
theorem rrate_x (v:Int)(m:List UInt8)(hm:rateL v=m)(w:World)(h:I64 v) :
  Calls Tryz.prog 13 #[.int .i64 v] w fun e w'=>e=.returned (.string ⟨m.toArray⟩)∧Ext w w':=hm ▸ rrate_c v w h
theorem pow11 (V d:Nat)(h:V<10 ^ d)(hd:d≤11):V<100000000000 :=
 Nat.lt_of_lt_of_le h (Nat.le_trans (Nat.pow_le_pow_right (by omega) hd) (by decide))
theorem pow_step (V d z:Nat)(h:V<10 ^ d)(hz:z≤9):10 * V+z<10 ^ (d+1):=by
 rw [Nat.pow_succ];omega
theorem step_digit (n k:Nat)(c:UInt8)(V d:Nat)(p:Int)(c45:c≠45)(c37:c≠37)(c46:c≠46)(hdg:isD c=true)(hd:d<12):stepR n k c V d p=some (10 * V+(c.toNat-48),d+1,p):=by
 unfold stepR;rw [if_neg (fun h=>c45 h.1),if_neg (fun h=>c37 h.1),if_neg (fun h=>c46 h.1),if_pos ⟨hdg,hd⟩]
theorem sum_cast (V z:Nat)(X Z Y:Int)(h1:X=(V:Int))(h2:Z=(z:Int)-48)(h3:48≤z)(h4:Y=10 * X+Z):Y=((10 * V+(z-48):Nat):Int):=by
 omega
theorem meas (n k:Nat)(h:k<n):n-(RowKit.intOf (.int .i64 ((k:Int)+1))).toNat<n-(RowKit.intOf (.int .i64 (k:Int))).toNat:=by
 simp [RowKit.intOf];omega
theorem nz9 (z:Nat)(h:z≤57):z-48≤9:=by omega
def RelR (n:Nat)(l:List UInt8)(R0:Option (Nat×Nat×Int))(v dd pp i:Value):Prop :=
 ∃ (k V d:Nat) (p Xv:Int),k≤n∧i=.int .i64 (k:Int)∧v=.int .i64 Xv∧dd=.int .i64 (d:Int)∧pp=.int .i64 p∧d≤12∧V<10 ^ d∧-1≤p∧p≤(d:Int)∧Hid (runR n k (l.drop k) V d p=R0)∧Hid (Xv=(V:Int))∧0≤Xv∧Xv<1000000000000
def RelT (T:Int)(v i:Value):Prop :=
 ∃ (J X:Int),i=.int .i64 J∧v=.int .i64 X∧0≤J∧J≤12∧Hid (I64 X)∧Hid (tens (7-J).toNat X=T)
theorem bneI {x y:Int}(h:¬ x=y):(x==y)=false:=by simpa using h
theorem rtr_n (l:List UInt8)(w:World)(n:Nat)(hnl:l.length=n)(hn0:0<n)(hn:n≤20000)(hix0:∀ h,(⟨l.toArray⟩:ByteArray)[0]'h=45)(R0:Option (Nat×Nat×Int))(hstart:runR n 0 l 0 0 (-1)=R0)
  (RV RC:Int) (hnone:R0=none→RV=0∧RC=4)
  (hsome:∀ V d p,R0=some (V,d,p)→(RV,RC)=if (d:Int)-pt d p≤7∧wrap64 (-(tens (7-((d:Int)-pt d p)).toNat (V:Int)))≤10000000000∧-10000000000≤wrap64 (-(tens (7-((d:Int)-pt d p)).toNat (V:Int)))∧rateL (wrap64 (-(tens (7-((d:Int)-pt d p)).toNat (V:Int))))=l then (wrap64 (-(tens (7-((d:Int)-pt d p)).toNat (V:Int))),0) else (0,4)) :
  Calls Tryz.prog 139 #[.string ⟨l.toArray⟩] w fun e w'=>e=.returned (.tuple #[.int .i64 RV,.int .i64 RC])∧Ext w w':=by
 replace hstart:=hid hstart
 replace hnone:=hid hnone
 replace hsome:=hid hsome
 have hn0I:(0:Int)<(n:Int):=by omega
 have hwn:wrap64 ((n:Int)-1)=(n:Int)-1:=by unfold wrap64;omega
 go_enter Tryz.func139,Tryz.ntmps139
 go_wp2
 go_loop [4,5,6,7] (fun v dd pp i=>RelR n l R0 v dd pp i) (fun _ _ _ i=>n-(RowKit.intOf i).toNat)
 case atStart=>exact ⟨0,0,0,-1,0,Nat.zero_le _,rfl,rfl,rfl,rfl,by omega,by decide,by omega,by omega,hstart,rfl,by omega,by omega⟩
 case round =>
  obtain⟨k,V,d,p,Xv,hk,rfl,rfl,rfl,rfl,hd12,hV,hp1,hp2,hrun,hXV,x0,x1⟩:=hrel
  have hV12:V<1000000000000:=Nat.lt_of_lt_of_le hV (Nat.pow_le_pow_right (n:=10) (by omega) hd12)
  replace hV:=hid hV
  by_cases hkl:k<n
  ·have hkI:(k:Int)<(n:Int):=by omega
   have hk0:(0:Int)≤(k:Int):=by omega
   have hwk:wrap64 ((k:Int)+1)=(k:Int)+1:=by unfold wrap64;omega
   obtain⟨c,hc⟩:∃ c,l[k]?=some c:=⟨l[k]'(by omega),List.getElem?_eq_getElem _⟩
   have hixk:=idx_of l k c hc
   by_cases c45:c=45
   ·subst c45
    by_cases hk00:k=0
    ·subst hk00
     have hrun2:=run_step hc (show stepR n 0 45 V d p=some (V,d,p) by unfold stepR;rw [if_pos ⟨rfl,rfl⟩]) hrun.out
     replace hrun2:=hid hrun2
     replace hc:=hid hc
     go_wp2
     go_round
     case rel=>exact ⟨0+1,V,d,p,Xv,by omega,by go_num,by first | rfl | go_num,by first | rfl | go_num,by first | rfl | go_num,by omega,hV.out,by omega,by omega,hrun2.out,hXV,x0,x1⟩
     case measure=>simp [RowKit.intOf] <;> omega
    ·have hkb:((k:Int)==0)=false:=bneI (by omega)
     have hz:=run_none hc (show stepR n k 45 V d p=none by unfold stepR;rw [if_neg (fun h=>hk00 h.2),if_neg (fun h=>absurd h.1 (by decide)),if_neg (fun h=>absurd h.1 (by decide)),if_neg (fun h=>absurd h.1 (by decide))]) hrun.out
     obtain⟨rfl,rfl⟩:=hnone.out hz
     replace hz:=hid hz
     replace hc:=hid hc
     go_wp2_with fail
     refine (rdigit_x 45 false (show Hid (isD 45=false) from rfl).out _).mono ?_
     rintro e w1 ⟨rfl,rfl⟩
     go_wp2
     go_ret2
     exact⟨rfl,Ext.refl _⟩
   by_cases c37:c=37
   ·subst c37
    by_cases hkn:k+1=n
    ·have hkb:((k:Int)==(n:Int)-1)=true:=by simp;omega
     have hrun2:=run_step hc (show stepR n k 37 V d p=some (V,d,p) by unfold stepR;rw [if_neg (fun h=>absurd h.1 (by decide)),if_pos ⟨rfl,hkn⟩]) hrun.out
     replace hrun2:=hid hrun2
     replace hc:=hid hc
     go_wp2
     go_round
     case rel=>exact ⟨k+1,V,d,p,Xv,by omega,by go_num,by first | rfl | go_num,by first | rfl | go_num,by first | rfl | go_num,by omega,hV.out,by omega,by omega,hrun2.out,hXV,x0,x1⟩
     case measure=>simp [RowKit.intOf] <;> omega
    ·have hkb:((k:Int)==(n:Int)-1)=false:=bneI (by omega)
     have hz:=run_none hc (show stepR n k 37 V d p=none by unfold stepR;rw [if_neg (fun h=>absurd h.1 (by decide)),if_neg (fun h=>hkn h.2),if_neg (fun h=>absurd h.1 (by decide)),if_neg (fun h=>absurd h.1 (by decide))]) hrun.out
     obtain⟨rfl,rfl⟩:=hnone.out hz
     replace hz:=hid hz
     replace hc:=hid hc
     go_wp2_with fail
     refine (rdigit_x 37 false (show Hid (isD 37=false) from rfl).out _).mono ?_
     rintro e w1 ⟨rfl,rfl⟩
     go_wp2
     go_ret2
     exact⟨rfl,Ext.refl _⟩
   by_cases c46:c=46
   ·subst c46
    by_cases hp:p<0
    ·have hpt:True:=trivial
     have hrun2:=run_step hc (show stepR n k 46 V d p=some (V,d,(d:Int)) by unfold stepR;rw [if_neg (fun h=>absurd h.1 (by decide)),if_neg (fun h=>absurd h.1 (by decide)),if_pos ⟨rfl,hp⟩]) hrun.out
     replace hrun2:=hid hrun2
     replace hc:=hid hc
     go_wp2
     go_round
     case rel=>exact ⟨k+1,V,d,(d:Int),Xv,by omega,by go_num,by first | rfl | go_num,by first | rfl | go_num,by first | rfl | go_num,by omega,hV.out,by omega,by omega,hrun2.out,hXV,x0,x1⟩
     case measure=>simp [RowKit.intOf] <;> omega
    ·have hpb:decide (p<0)=false:=decide_eq_false hp
     have hz:=run_none hc (show stepR n k 46 V d p=none by unfold stepR;rw [if_neg (fun h=>absurd h.1 (by decide)),if_neg (fun h=>absurd h.1 (by decide)),if_neg (fun h=>hp h.2),if_neg (fun h=>absurd h.1 (by decide))]) hrun.out
     obtain⟨rfl,rfl⟩:=hnone.out hz
     replace hz:=hid hz
     replace hc:=hid hc
     go_wp2_with fail
     refine (rdigit_x 46 false (show Hid (isD 46=false) from rfl).out _).mono ?_
     rintro e w1 ⟨rfl,rfl⟩
     go_wp2
     go_ret2
     exact⟨rfl,Ext.refl _⟩
   have e45:((c.toNat:Int)==45)=false:=toNat_ne (c:=45) c45
   have e37:((c.toNat:Int)==37)=false:=toNat_ne (c:=37) c37
   have e46:((c.toNat:Int)==46)=false:=toNat_ne (c:=46) c46
   cases hdg:isD c
   ·have hz:=run_none hc (show stepR n k c V d p=none by unfold stepR;rw [if_neg (fun h=>c45 h.1),if_neg (fun h=>c37 h.1),if_neg (fun h=>c46 h.1),if_neg (fun h=>by rw [hdg] at h;cases h.1)]) hrun.out
    obtain⟨rfl,rfl⟩:=hnone.out hz
    replace hz:=hid hz
    replace hc:=hid hc
    replace hdg:=hid hdg
    clear c45 c37 c46
    go_wp2_with fail
    refine (rdigit_x c false hdg.out _).mono ?_
    rintro e w1 ⟨rfl,rfl⟩
    go_wp2
    go_ret2
    exact⟨rfl,Ext.refl _⟩
   ·by_cases hd:d<12
    ·have hdI:(d:Int)<12:=by omega
     have hr:=isD_range hdg
     obtain⟨Z,hZ⟩:∃ Z:Int,Z=(c.toNat:Int)-48:=⟨_,rfl⟩
     have hw8:IntKind.u8.wrap ((c.toNat:Int)-48)=Z:=by rw [IntKind.wrap_u8];omega
     have hZ0:0≤Z:=by omega
     have hZ9:Z≤9:=by omega
     have hV11:V<100000000000:=pow11 V d hV.out (by omega)
     have hX11:Xv<100000000000:=by have:=hXV.out;omega
     replace hV11:=hid hV11
     obtain⟨Y,hY⟩:∃ Y:Int,Y=10 * Xv+Z:=⟨_,rfl⟩
     have y0:0≤Y:=by omega
     have y1:Y<1000000000000:=by omega
     have hYI:10 * Xv+Z=Y:=by omega
     have hw10:wrap64 (10 * Xv)=10 * Xv:=by unfold wrap64;omega
     have hwY:wrap64 (10 * Xv+Z)=Y:=by unfold wrap64;omega
     have hYV:Hid (Y=((10 * V+(c.toNat-48):Nat):Int)):=sum_cast V c.toNat Xv Z Y hXV.out hZ hr.1 hY
     have hrun2:=run_step hc (step_digit n k c V d p c45 c37 c46 hdg hd) hrun.out
     replace hrun2:=hid hrun2
     replace hc:=hid hc
     replace hdg:=hid hdg
     replace hY:=hid hY
     replace hZ:=hid hZ
     have hwZ:wrap64 Z=Z:=by unfold wrap64;omega
     have hwY2:wrap64 Y=Y:=by unfold wrap64;omega
     have keep:Hid (0≤Y∧Y<1000000000000∧d<12∧-1≤p∧p≤(d:Int)∧c.toNat≤57∧k<n):=⟨y0,y1,hd,hp1,hp2,hr.2,hkl⟩
     clear x0 x1 y0 y1 hX11 hp1 hp2 hd12 hd hr
     clear c45 c37 c46
     go_wp2_with fail
     refine (rdigit_x c true hdg.out _).mono ?_
     rintro e w1 ⟨rfl,rfl⟩
     go_wp2
     go_round
     case rel =>
      obtain⟨y0,y1,hd,hp1,hp2,hr2,_⟩:=keep.out
      exact⟨k+1,10 * V+(c.toNat-48),d+1,p,Y,hkl,by go_num,by first | rfl | go_num,by go_num,by first | rfl | go_num,hd,pow_step V d (c.toNat-48) hV.out (nz9 _ hr2),hp1,Int.le_trans hp2 (Int.ofNat_le.mpr (Nat.le_succ d)),hrun2.out,hYV,y0,y1⟩
     case measure=>exact meas n k keep.out.2.2.2.2.2.2
    ·have hdI:¬ (d:Int)<12:=by omega
     have hdb:decide ((d:Int)<12)=false:=decide_eq_false hdI
     have hz:=run_none hc (show stepR n k c V d p=none by unfold stepR;rw [if_neg (fun h=>c45 h.1),if_neg (fun h=>c37 h.1),if_neg (fun h=>c46 h.1),if_neg (fun h=>hd h.2)]) hrun.out
     obtain⟨rfl,rfl⟩:=hnone.out hz
     replace hz:=hid hz
     replace hc:=hid hc
     replace hdg:=hid hdg
     clear c45 c37 c46
     go_wp2_with fail
     refine (rdigit_x c true hdg.out _).mono ?_
     rintro e w1 ⟨rfl,rfl⟩
     go_wp2
     go_ret2
     exact⟨rfl,Ext.refl _⟩
  ·obtain rfl:k=n:=by omega
   have hR0:=run_over (by omega) hrun.out
   have hkI:¬ (k:Int)<(k:Int):=by omega
   clear hrun
   by_cases hp:p<0
   ·have hp0:True:=trivial
    have hR:=hsome.out V d p hR0
    have hpt:pt d p=(d:Int):=by unfold pt;rw [if_pos hp]
    rw [hpt] at hR
    obtain⟨I0,hI0⟩:∃ x:Int,(d:Int)-(d:Int)=x:=⟨_,rfl⟩
    rw [hI0] at hR
    have hwI:wrap64 ((d:Int)-(d:Int))=I0:=by unfold wrap64;omega
    have i0a:0≤I0:=by omega
    have i0b:I0≤12:=by omega
    rw [←hXV.out] at hR
    obtain⟨T,hT⟩:∃ x:Int,tens (7-I0).toNat Xv=x:=⟨_,rfl⟩
    rw [hT] at hR
    replace hR:=hid hR
    replace hT:=hid hT
    have iV:I64 Xv:=⟨by omega,by omega⟩
    replace iV:=hid iV
    replace hR0:Hid True:=trivial
    clear hpt
    have hdd:I0=0:=by omega
    subst hdd
    clear hI0 hwI
    go_wp2
    go_loop [4,8] (fun v i=>RelT T v i) (fun _ i=>(7-RowKit.intOf i).toNat)
    case atStart=>exact ⟨0,Xv,by first | rfl | go_num,rfl,by omega,by omega,iV,hT⟩
    case round =>
     obtain⟨J,X,rfl,rfl,j0,j1,iX,hX⟩:=hrel
     by_cases hJ:J<7
     ·have iX':Hid (I64 (wrap64 (10 * X))):=wrap_I64 _
      have hwJ:wrap64 (J+1)=J+1:=by unfold wrap64;omega
      have hX2:Hid (tens (7-(J+1)).toNat (wrap64 (10 * X))=T):=by
       have:=hX.out
       rw [show (7-J).toNat=(7-(J+1)).toNat+1 by omega,tens] at this
       exact this
      go_wp2
      go_round
      case rel=>exact ⟨J+1,wrap64 (10 * X),by first | rfl | go_num,rfl,by omega,by omega,iX',hX2⟩
      case measure=>simp [RowKit.intOf] <;> omega
     ·have hXT:X=T:=by
       have:=hX.out
       rw [show (7-J).toNat=0 by omega,tens] at this
       exact this
      subst hXT
      clear hX hT
      replace hR:=hR.out
      obtain⟨G,hG⟩:∃ x:Int,wrap64 (-X)=x:=⟨_,rfl⟩
      have iG:Hid (I64 G):=by rw [←hG];exact wrap_I64 _
      rw [hG] at hR
      by_cases b1:(0:Int)≤7
      ·have b1n:¬ (7:Int)<0:=by omega
       by_cases b2:G≤10000000000
       ·have b2n:¬ 10000000000<G:=by omega
        by_cases b3:-10000000000≤G
        ·have b3n:¬ G < -10000000000:=by omega
         generalize hM:rateL G=M at hR
         replace hM:=hid hM
         by_cases b4:M=l
         ·have b4b:(M==l)=true:=by simpa using b4
          rw [if_pos ⟨b1,b2,b3,b4⟩] at hR
          obtain⟨hRV,rfl⟩:=Prod.mk.inj hR
          replace hRV:=hRV.symm
          subst hRV
          replace b4:=hid b4
          go_wp2_with fail
          refine (rrate_x G M hM.out _ iG.out).mono ?_
          rintro e w1 ⟨rfl,hx⟩
          go_wp2
          go_ret2
          exact⟨rfl,hx⟩
         ·have b4b:(M==l)=false:=by simpa using b4
          rw [if_neg (fun h=>b4 h.2.2.2)] at hR
          obtain⟨rfl,rfl⟩:=Prod.mk.inj hR
          replace b4:Hid True:=trivial
          go_wp2_with fail
          refine (rrate_x G M hM.out _ iG.out).mono ?_
          rintro e w1 ⟨rfl,hx⟩
          go_wp2
          go_ret2
          exact⟨rfl,hx⟩
        ·have b3n:G < -10000000000:=by omega
         rw [if_neg (fun h=>b3 h.2.2.1)] at hR
         obtain⟨rfl,rfl⟩:=Prod.mk.inj hR
         clear b3
         go_wp2
         go_ret2
         exact⟨rfl,Ext.refl _⟩
       ·have b2n:10000000000<G:=by omega
        rw [if_neg (fun h=>b2 h.2.1)] at hR
        obtain⟨rfl,rfl⟩:=Prod.mk.inj hR
        clear b2
        go_wp2
        go_ret2
        exact⟨rfl,Ext.refl _⟩
      ·have b1n:(7:Int)<0:=by omega
       rw [if_neg (fun h=>b1 h.1)] at hR
       obtain⟨rfl,rfl⟩:=Prod.mk.inj hR
       clear b1
       go_wp2
       go_ret2
       exact⟨rfl,Ext.refl _⟩
   ·have hp0:¬ p<0:=hp
    have hR:=hsome.out V d p hR0
    have hpt:pt d p=p:=by unfold pt;rw [if_neg hp]
    rw [hpt] at hR
    obtain⟨I0,hI0⟩:∃ x:Int,(d:Int)-p=x:=⟨_,rfl⟩
    rw [hI0] at hR
    have hwI:wrap64 ((d:Int)-p)=I0:=by unfold wrap64;omega
    have i0a:0≤I0:=by omega
    have i0b:I0≤12:=by omega
    rw [←hXV.out] at hR
    obtain⟨T,hT⟩:∃ x:Int,tens (7-I0).toNat Xv=x:=⟨_,rfl⟩
    rw [hT] at hR
    replace hR:=hid hR
    replace hT:=hid hT
    have iV:I64 Xv:=⟨by omega,by omega⟩
    replace iV:=hid iV
    replace hR0:Hid True:=trivial
    clear hpt
    go_wp2
    go_loop [4,8] (fun v i=>RelT T v i) (fun _ i=>(7-RowKit.intOf i).toNat)
    case atStart=>exact ⟨I0,Xv,by first | rfl | go_num,rfl,by omega,by omega,iV,hT⟩
    case round =>
     obtain⟨J,X,rfl,rfl,j0,j1,iX,hX⟩:=hrel
     by_cases hJ:J<7
     ·have iX':Hid (I64 (wrap64 (10 * X))):=wrap_I64 _
      have hwJ:wrap64 (J+1)=J+1:=by unfold wrap64;omega
      have hX2:Hid (tens (7-(J+1)).toNat (wrap64 (10 * X))=T):=by
       have:=hX.out
       rw [show (7-J).toNat=(7-(J+1)).toNat+1 by omega,tens] at this
       exact this
      go_wp2
      go_round
      case rel=>exact ⟨J+1,wrap64 (10 * X),by first | rfl | go_num,rfl,by omega,by omega,iX',hX2⟩
      case measure=>simp [RowKit.intOf] <;> omega
     ·have hXT:X=T:=by
       have:=hX.out
       rw [show (7-J).toNat=0 by omega,tens] at this
       exact this
      subst hXT
      clear hX hT
      replace hR:=hR.out
      obtain⟨G,hG⟩:∃ x:Int,wrap64 (-X)=x:=⟨_,rfl⟩
      have iG:Hid (I64 G):=by rw [←hG];exact wrap_I64 _
      rw [hG] at hR
      by_cases b1:I0≤7
      ·have b1n:¬ 7<I0:=by omega
       by_cases b2:G≤10000000000
       ·have b2n:¬ 10000000000<G:=by omega
        by_cases b3:-10000000000≤G
        ·have b3n:¬ G < -10000000000:=by omega
         generalize hM:rateL G=M at hR
         replace hM:=hid hM
         by_cases b4:M=l
         ·have b4b:(M==l)=true:=by simpa using b4
          rw [if_pos ⟨b1,b2,b3,b4⟩] at hR
          obtain⟨hRV,rfl⟩:=Prod.mk.inj hR
          replace hRV:=hRV.symm
          subst hRV
          replace b4:=hid b4
          go_wp2_with fail
          refine (rrate_x G M hM.out _ iG.out).mono ?_
          rintro e w1 ⟨rfl,hx⟩
          go_wp2
          go_ret2
          exact⟨rfl,hx⟩
         ·have b4b:(M==l)=false:=by simpa using b4
          rw [if_neg (fun h=>b4 h.2.2.2)] at hR
          obtain⟨rfl,rfl⟩:=Prod.mk.inj hR
          replace b4:Hid True:=trivial
          go_wp2_with fail
          refine (rrate_x G M hM.out _ iG.out).mono ?_
          rintro e w1 ⟨rfl,hx⟩
          go_wp2
          go_ret2
          exact⟨rfl,hx⟩
        ·have b3n:G < -10000000000:=by omega
         rw [if_neg (fun h=>b3 h.2.2.1)] at hR
         obtain⟨rfl,rfl⟩:=Prod.mk.inj hR
         clear b3
         go_wp2
         go_ret2
         exact⟨rfl,Ext.refl _⟩
       ·have b2n:10000000000<G:=by omega
        rw [if_neg (fun h=>b2 h.2.1)] at hR
        obtain⟨rfl,rfl⟩:=Prod.mk.inj hR
        clear b2
        go_wp2
        go_ret2
        exact⟨rfl,Ext.refl _⟩
      ·have b1n:7<I0:=by omega
       rw [if_neg (fun h=>b1 h.1)] at hR
       obtain⟨rfl,rfl⟩:=Prod.mk.inj hR
       clear b1
       go_wp2
       go_ret2
       exact⟨rfl,Ext.refl _⟩
theorem rtr_p (l:List UInt8)(w:World)(n:Nat)(hnl:l.length=n)(hn0:0<n)(hn:n≤20000)(x:UInt8)(hix0:∀ h,(⟨l.toArray⟩:ByteArray)[0]'h=x)(hx45:((x.toNat:Int)==45)=false)(R0:Option (Nat×Nat×Int))(hstart:runR n 0 l 0 0 (-1)=R0)
  (RV RC:Int) (hnone:R0=none→RV=0∧RC=4)
  (hsome:∀ V d p,R0=some (V,d,p)→(RV,RC)=if (d:Int)-pt d p≤7∧tens (7-((d:Int)-pt d p)).toNat (V:Int)≤10000000000∧-10000000000≤tens (7-((d:Int)-pt d p)).toNat (V:Int)∧rateL (tens (7-((d:Int)-pt d p)).toNat (V:Int))=l then (tens (7-((d:Int)-pt d p)).toNat (V:Int),0) else (0,4)) :
  Calls Tryz.prog 139 #[.string ⟨l.toArray⟩] w fun e w'=>e=.returned (.tuple #[.int .i64 RV,.int .i64 RC])∧Ext w w':=by
 replace hstart:=hid hstart
 replace hnone:=hid hnone
 replace hsome:=hid hsome
 have hn0I:(0:Int)<(n:Int):=by omega
 have hwn:wrap64 ((n:Int)-1)=(n:Int)-1:=by unfold wrap64;omega
 go_enter Tryz.func139,Tryz.ntmps139
 go_wp2
 go_loop [4,5,6,7] (fun v dd pp i=>RelR n l R0 v dd pp i) (fun _ _ _ i=>n-(RowKit.intOf i).toNat)
 case atStart=>exact ⟨0,0,0,-1,0,Nat.zero_le _,rfl,rfl,rfl,rfl,by omega,by decide,by omega,by omega,hstart,rfl,by omega,by omega⟩
 case round =>
  obtain⟨k,V,d,p,Xv,hk,rfl,rfl,rfl,rfl,hd12,hV,hp1,hp2,hrun,hXV,x0,x1⟩:=hrel
  have hV12:V<1000000000000:=Nat.lt_of_lt_of_le hV (Nat.pow_le_pow_right (n:=10) (by omega) hd12)
  replace hV:=hid hV
  by_cases hkl:k<n
  ·have hkI:(k:Int)<(n:Int):=by omega
   have hk0:(0:Int)≤(k:Int):=by omega
   have hwk:wrap64 ((k:Int)+1)=(k:Int)+1:=by unfold wrap64;omega
   obtain⟨c,hc⟩:∃ c,l[k]?=some c:=⟨l[k]'(by omega),List.getElem?_eq_getElem _⟩
   have hixk:=idx_of l k c hc
   by_cases c45:c=45
   ·subst c45
    by_cases hk00:k=0
    ·subst hk00
     have hsz:0<(⟨l.toArray⟩:ByteArray).size:=by rw [Lib.size_mk];omega
     have hx:x=45:=(hix0 hsz).symm.trans (hixk hsz)
     rw [hx] at hx45
     exact absurd hx45 (by decide)
    ·have hkb:((k:Int)==0)=false:=bneI (by omega)
     have hz:=run_none hc (show stepR n k 45 V d p=none by unfold stepR;rw [if_neg (fun h=>hk00 h.2),if_neg (fun h=>absurd h.1 (by decide)),if_neg (fun h=>absurd h.1 (by decide)),if_neg (fun h=>absurd h.1 (by decide))]) hrun.out
     obtain⟨rfl,rfl⟩:=hnone.out hz
     replace hz:=hid hz
     replace hc:=hid hc
     go_wp2_with fail
     refine (rdigit_x 45 false (show Hid (isD 45=false) from rfl).out _).mono ?_
     rintro e w1 ⟨rfl,rfl⟩
     go_wp2
     go_ret2
     exact⟨rfl,Ext.refl _⟩
   by_cases c37:c=37
   ·subst c37
    by_cases hkn:k+1=n
    ·have hkb:((k:Int)==(n:Int)-1)=true:=by simp;omega
     have hrun2:=run_step hc (show stepR n k 37 V d p=some (V,d,p) by unfold stepR;rw [if_neg (fun h=>absurd h.1 (by decide)),if_pos ⟨rfl,hkn⟩]) hrun.out
     replace hrun2:=hid hrun2
     replace hc:=hid hc
     go_wp2
     go_round
     case rel=>exact ⟨k+1,V,d,p,Xv,by omega,by go_num,by first | rfl | go_num,by first | rfl | go_num,by first | rfl | go_num,by omega,hV.out,by omega,by omega,hrun2.out,hXV,x0,x1⟩
     case measure=>simp [RowKit.intOf] <;> omega
    ·have hkb:((k:Int)==(n:Int)-1)=false:=bneI (by omega)
     have hz:=run_none hc (show stepR n k 37 V d p=none by unfold stepR;rw [if_neg (fun h=>absurd h.1 (by decide)),if_neg (fun h=>hkn h.2),if_neg (fun h=>absurd h.1 (by decide)),if_neg (fun h=>absurd h.1 (by decide))]) hrun.out
     obtain⟨rfl,rfl⟩:=hnone.out hz
     replace hz:=hid hz
     replace hc:=hid hc
     go_wp2_with fail
     refine (rdigit_x 37 false (show Hid (isD 37=false) from rfl).out _).mono ?_
     rintro e w1 ⟨rfl,rfl⟩
     go_wp2
     go_ret2
     exact⟨rfl,Ext.refl _⟩
   by_cases c46:c=46
   ·subst c46
    by_cases hp:p<0
    ·have hpt:True:=trivial
     have hrun2:=run_step hc (show stepR n k 46 V d p=some (V,d,(d:Int)) by unfold stepR;rw [if_neg (fun h=>absurd h.1 (by decide)),if_neg (fun h=>absurd h.1 (by decide)),if_pos ⟨rfl,hp⟩]) hrun.out
     replace hrun2:=hid hrun2
     replace hc:=hid hc
     go_wp2
     go_round
     case rel=>exact ⟨k+1,V,d,(d:Int),Xv,by omega,by go_num,by first | rfl | go_num,by first | rfl | go_num,by first | rfl | go_num,by omega,hV.out,by omega,by omega,hrun2.out,hXV,x0,x1⟩
     case measure=>simp [RowKit.intOf] <;> omega
    ·have hpb:decide (p<0)=false:=decide_eq_false hp
     have hz:=run_none hc (show stepR n k 46 V d p=none by unfold stepR;rw [if_neg (fun h=>absurd h.1 (by decide)),if_neg (fun h=>absurd h.1 (by decide)),if_neg (fun h=>hp h.2),if_neg (fun h=>absurd h.1 (by decide))]) hrun.out
     obtain⟨rfl,rfl⟩:=hnone.out hz
     replace hz:=hid hz
     replace hc:=hid hc
     go_wp2_with fail
     refine (rdigit_x 46 false (show Hid (isD 46=false) from rfl).out _).mono ?_
     rintro e w1 ⟨rfl,rfl⟩
     go_wp2
     go_ret2
     exact⟨rfl,Ext.refl _⟩
   have e45:((c.toNat:Int)==45)=false:=toNat_ne (c:=45) c45
   have e37:((c.toNat:Int)==37)=false:=toNat_ne (c:=37) c37
   have e46:((c.toNat:Int)==46)=false:=toNat_ne (c:=46) c46
   cases hdg:isD c
   ·have hz:=run_none hc (show stepR n k c V d p=none by unfold stepR;rw [if_neg (fun h=>c45 h.1),if_neg (fun h=>c37 h.1),if_neg (fun h=>c46 h.1),if_neg (fun h=>by rw [hdg] at h;cases h.1)]) hrun.out
    obtain⟨rfl,rfl⟩:=hnone.out hz
    replace hz:=hid hz
    replace hc:=hid hc
    replace hdg:=hid hdg
    clear c45 c37 c46
    go_wp2_with fail
    refine (rdigit_x c false hdg.out _).mono ?_
    rintro e w1 ⟨rfl,rfl⟩
    go_wp2
    go_ret2
    exact⟨rfl,Ext.refl _⟩
   ·by_cases hd:d<12
    ·have hdI:(d:Int)<12:=by omega
     have hr:=isD_range hdg
     obtain⟨Z,hZ⟩:∃ Z:Int,Z=(c.toNat:Int)-48:=⟨_,rfl⟩
     have hw8:IntKind.u8.wrap ((c.toNat:Int)-48)=Z:=by rw [IntKind.wrap_u8];omega
     have hZ0:0≤Z:=by omega
     have hZ9:Z≤9:=by omega
     have hV11:V<100000000000:=pow11 V d hV.out (by omega)
     have hX11:Xv<100000000000:=by have:=hXV.out;omega
     replace hV11:=hid hV11
     obtain⟨Y,hY⟩:∃ Y:Int,Y=10 * Xv+Z:=⟨_,rfl⟩
     have y0:0≤Y:=by omega
     have y1:Y<1000000000000:=by omega
     have hYI:10 * Xv+Z=Y:=by omega
     have hw10:wrap64 (10 * Xv)=10 * Xv:=by unfold wrap64;omega
     have hwY:wrap64 (10 * Xv+Z)=Y:=by unfold wrap64;omega
     have hYV:Hid (Y=((10 * V+(c.toNat-48):Nat):Int)):=sum_cast V c.toNat Xv Z Y hXV.out hZ hr.1 hY
     have hrun2:=run_step hc (step_digit n k c V d p c45 c37 c46 hdg hd) hrun.out
     replace hrun2:=hid hrun2
     replace hc:=hid hc
     replace hdg:=hid hdg
     replace hY:=hid hY
     replace hZ:=hid hZ
     have hwZ:wrap64 Z=Z:=by unfold wrap64;omega
     have hwY2:wrap64 Y=Y:=by unfold wrap64;omega
     have keep:Hid (0≤Y∧Y<1000000000000∧d<12∧-1≤p∧p≤(d:Int)∧c.toNat≤57∧k<n):=⟨y0,y1,hd,hp1,hp2,hr.2,hkl⟩
     clear x0 x1 y0 y1 hX11 hp1 hp2 hd12 hd hr
     clear c45 c37 c46
     go_wp2_with fail
     refine (rdigit_x c true hdg.out _).mono ?_
     rintro e w1 ⟨rfl,rfl⟩
     go_wp2
     go_round
     case rel =>
      obtain⟨y0,y1,hd,hp1,hp2,hr2,_⟩:=keep.out
      exact⟨k+1,10 * V+(c.toNat-48),d+1,p,Y,hkl,by go_num,by first | rfl | go_num,by go_num,by first | rfl | go_num,hd,pow_step V d (c.toNat-48) hV.out (nz9 _ hr2),hp1,Int.le_trans hp2 (Int.ofNat_le.mpr (Nat.le_succ d)),hrun2.out,hYV,y0,y1⟩
     case measure=>exact meas n k keep.out.2.2.2.2.2.2
    ·have hdI:¬ (d:Int)<12:=by omega
     have hdb:decide ((d:Int)<12)=false:=decide_eq_false hdI
     have hz:=run_none hc (show stepR n k c V d p=none by unfold stepR;rw [if_neg (fun h=>c45 h.1),if_neg (fun h=>c37 h.1),if_neg (fun h=>c46 h.1),if_neg (fun h=>hd h.2)]) hrun.out
     obtain⟨rfl,rfl⟩:=hnone.out hz
     replace hz:=hid hz
     replace hc:=hid hc
     replace hdg:=hid hdg
     clear c45 c37 c46
     go_wp2_with fail
     refine (rdigit_x c true hdg.out _).mono ?_
     rintro e w1 ⟨rfl,rfl⟩
     go_wp2
     go_ret2
     exact⟨rfl,Ext.refl _⟩
  ·obtain rfl:k=n:=by omega
   have hR0:=run_over (by omega) hrun.out
   have hkI:¬ (k:Int)<(k:Int):=by omega
   clear hrun
   by_cases hp:p<0
   ·have hp0:True:=trivial
    have hR:=hsome.out V d p hR0
    have hpt:pt d p=(d:Int):=by unfold pt;rw [if_pos hp]
    rw [hpt] at hR
    obtain⟨I0,hI0⟩:∃ x:Int,(d:Int)-(d:Int)=x:=⟨_,rfl⟩
    rw [hI0] at hR
    have hwI:wrap64 ((d:Int)-(d:Int))=I0:=by unfold wrap64;omega
    have i0a:0≤I0:=by omega
    have i0b:I0≤12:=by omega
    rw [←hXV.out] at hR
    obtain⟨T,hT⟩:∃ x:Int,tens (7-I0).toNat Xv=x:=⟨_,rfl⟩
    rw [hT] at hR
    replace hR:=hid hR
    replace hT:=hid hT
    have iV:I64 Xv:=⟨by omega,by omega⟩
    replace iV:=hid iV
    replace hR0:Hid True:=trivial
    clear hpt
    have hdd:I0=0:=by omega
    subst hdd
    clear hI0 hwI
    go_wp2
    go_loop [4,8] (fun v i=>RelT T v i) (fun _ i=>(7-RowKit.intOf i).toNat)
    case atStart=>exact ⟨0,Xv,by first | rfl | go_num,rfl,by omega,by omega,iV,hT⟩
    case round =>
     obtain⟨J,X,rfl,rfl,j0,j1,iX,hX⟩:=hrel
     by_cases hJ:J<7
     ·have iX':Hid (I64 (wrap64 (10 * X))):=wrap_I64 _
      have hwJ:wrap64 (J+1)=J+1:=by unfold wrap64;omega
      have hX2:Hid (tens (7-(J+1)).toNat (wrap64 (10 * X))=T):=by
       have:=hX.out
       rw [show (7-J).toNat=(7-(J+1)).toNat+1 by omega,tens] at this
       exact this
      go_wp2
      go_round
      case rel=>exact ⟨J+1,wrap64 (10 * X),by first | rfl | go_num,rfl,by omega,by omega,iX',hX2⟩
      case measure=>simp [RowKit.intOf] <;> omega
     ·have hXT:X=T:=by
       have:=hX.out
       rw [show (7-J).toNat=0 by omega,tens] at this
       exact this
      subst hXT
      clear hX hT
      replace hR:=hR.out
      obtain⟨G,hG⟩:∃ x:Int,X=x:=⟨_,rfl⟩
      subst hG
      have iG:=iX
      by_cases b1:(0:Int)≤7
      ·have b1n:¬ (7:Int)<0:=by omega
       by_cases b2:X≤10000000000
       ·have b2n:¬ 10000000000<X:=by omega
        by_cases b3:-10000000000≤X
        ·have b3n:¬ X < -10000000000:=by omega
         generalize hM:rateL X=M at hR
         replace hM:=hid hM
         by_cases b4:M=l
         ·have b4b:(M==l)=true:=by simpa using b4
          rw [if_pos ⟨b1,b2,b3,b4⟩] at hR
          obtain⟨hRV,rfl⟩:=Prod.mk.inj hR
          replace hRV:=hRV.symm
          subst hRV
          replace b4:=hid b4
          go_wp2_with fail
          refine (rrate_x X M hM.out _ iG.out).mono ?_
          rintro e w1 ⟨rfl,hx⟩
          go_wp2
          go_ret2
          exact⟨rfl,hx⟩
         ·have b4b:(M==l)=false:=by simpa using b4
          rw [if_neg (fun h=>b4 h.2.2.2)] at hR
          obtain⟨rfl,rfl⟩:=Prod.mk.inj hR
          replace b4:Hid True:=trivial
          go_wp2_with fail
          refine (rrate_x X M hM.out _ iG.out).mono ?_
          rintro e w1 ⟨rfl,hx⟩
          go_wp2
          go_ret2
          exact⟨rfl,hx⟩
        ·have b3n:X < -10000000000:=by omega
         rw [if_neg (fun h=>b3 h.2.2.1)] at hR
         obtain⟨rfl,rfl⟩:=Prod.mk.inj hR
         clear b3
         go_wp2
         go_ret2
         exact⟨rfl,Ext.refl _⟩
       ·have b2n:10000000000<X:=by omega
        rw [if_neg (fun h=>b2 h.2.1)] at hR
        obtain⟨rfl,rfl⟩:=Prod.mk.inj hR
        clear b2
        go_wp2
        go_ret2
        exact⟨rfl,Ext.refl _⟩
      ·have b1n:(7:Int)<0:=by omega
       rw [if_neg (fun h=>b1 h.1)] at hR
       obtain⟨rfl,rfl⟩:=Prod.mk.inj hR
       clear b1
       go_wp2
       go_ret2
       exact⟨rfl,Ext.refl _⟩
   ·have hp0:¬ p<0:=hp
    have hR:=hsome.out V d p hR0
    have hpt:pt d p=p:=by unfold pt;rw [if_neg hp]
    rw [hpt] at hR
    obtain⟨I0,hI0⟩:∃ x:Int,(d:Int)-p=x:=⟨_,rfl⟩
    rw [hI0] at hR
    have hwI:wrap64 ((d:Int)-p)=I0:=by unfold wrap64;omega
    have i0a:0≤I0:=by omega
    have i0b:I0≤12:=by omega
    rw [←hXV.out] at hR
    obtain⟨T,hT⟩:∃ x:Int,tens (7-I0).toNat Xv=x:=⟨_,rfl⟩
    rw [hT] at hR
    replace hR:=hid hR
    replace hT:=hid hT
    have iV:I64 Xv:=⟨by omega,by omega⟩
    replace iV:=hid iV
    replace hR0:Hid True:=trivial
    clear hpt
    go_wp2
    go_loop [4,8] (fun v i=>RelT T v i) (fun _ i=>(7-RowKit.intOf i).toNat)
    case atStart=>exact ⟨I0,Xv,by first | rfl | go_num,rfl,by omega,by omega,iV,hT⟩
    case round =>
     obtain⟨J,X,rfl,rfl,j0,j1,iX,hX⟩:=hrel
     by_cases hJ:J<7
     ·have iX':Hid (I64 (wrap64 (10 * X))):=wrap_I64 _
      have hwJ:wrap64 (J+1)=J+1:=by unfold wrap64;omega
      have hX2:Hid (tens (7-(J+1)).toNat (wrap64 (10 * X))=T):=by
       have:=hX.out
       rw [show (7-J).toNat=(7-(J+1)).toNat+1 by omega,tens] at this
       exact this
      go_wp2
      go_round
      case rel=>exact ⟨J+1,wrap64 (10 * X),by first | rfl | go_num,rfl,by omega,by omega,iX',hX2⟩
      case measure=>simp [RowKit.intOf] <;> omega
     ·have hXT:X=T:=by
       have:=hX.out
       rw [show (7-J).toNat=0 by omega,tens] at this
       exact this
      subst hXT
      clear hX hT
      replace hR:=hR.out
      obtain⟨G,hG⟩:∃ x:Int,X=x:=⟨_,rfl⟩
      subst hG
      have iG:=iX
      by_cases b1:I0≤7
      ·have b1n:¬ 7<I0:=by omega
       by_cases b2:X≤10000000000
       ·have b2n:¬ 10000000000<X:=by omega
        by_cases b3:-10000000000≤X
        ·have b3n:¬ X < -10000000000:=by omega
         generalize hM:rateL X=M at hR
         replace hM:=hid hM
         by_cases b4:M=l
         ·have b4b:(M==l)=true:=by simpa using b4
          rw [if_pos ⟨b1,b2,b3,b4⟩] at hR
          obtain⟨hRV,rfl⟩:=Prod.mk.inj hR
          replace hRV:=hRV.symm
          subst hRV
          replace b4:=hid b4
          go_wp2_with fail
          refine (rrate_x X M hM.out _ iG.out).mono ?_
          rintro e w1 ⟨rfl,hx⟩
          go_wp2
          go_ret2
          exact⟨rfl,hx⟩
         ·have b4b:(M==l)=false:=by simpa using b4
          rw [if_neg (fun h=>b4 h.2.2.2)] at hR
          obtain⟨rfl,rfl⟩:=Prod.mk.inj hR
          replace b4:Hid True:=trivial
          go_wp2_with fail
          refine (rrate_x X M hM.out _ iG.out).mono ?_
          rintro e w1 ⟨rfl,hx⟩
          go_wp2
          go_ret2
          exact⟨rfl,hx⟩
        ·have b3n:X < -10000000000:=by omega
         rw [if_neg (fun h=>b3 h.2.2.1)] at hR
         obtain⟨rfl,rfl⟩:=Prod.mk.inj hR
         clear b3
         go_wp2
         go_ret2
         exact⟨rfl,Ext.refl _⟩
       ·have b2n:10000000000<X:=by omega
        rw [if_neg (fun h=>b2 h.2.1)] at hR
        obtain⟨rfl,rfl⟩:=Prod.mk.inj hR
        clear b2
        go_wp2
        go_ret2
        exact⟨rfl,Ext.refl _⟩
      ·have b1n:7<I0:=by omega
       rw [if_neg (fun h=>b1 h.1)] at hR
       obtain⟨rfl,rfl⟩:=Prod.mk.inj hR
       clear b1
       go_wp2
       go_ret2
       exact⟨rfl,Ext.refl _⟩
theorem r0:rateL 0 = [48,37]:=by
 unfold rateL
 rw [show (0:Int).natAbs / 10000000=0 from rfl,decDigits_small (by omega)]
 decide +kernel
theorem rtr_e (w:World) :
  Calls Tryz.prog 139 #[.string ⟨#[]⟩] w fun e w'=>e=.returned (.tuple #[.int .i64 0,.int .i64 4])∧Ext w w':=by
 go_enter Tryz.func139,Tryz.ntmps139
 go_wp2
 refine wp_loop_rounds 1 ?_
 rw [rounds_succ]
 go_wp2
 refine wp_loop_rounds 8 ?_
 rw [rounds_succ]
 go_wp2
 rw [rounds_succ]
 go_wp2
 rw [rounds_succ]
 go_wp2
 rw [rounds_succ]
 go_wp2
 rw [rounds_succ]
 go_wp2
 rw [rounds_succ]
 go_wp2
 rw [rounds_succ]
 go_wp2
 rw [rounds_succ]
 go_wp2_with fail
 refine (rrate_x 0 [48,37] r0 _ ⟨by decide,by decide⟩).mono ?_
 rintro e w1 ⟨rfl,hx⟩
 go_wp2
 go_ret2
 exact⟨rfl,hx⟩
theorem rtakeRate_c (l:List UInt8)(w:World)(hl:l.length≤20000) :
  Calls Tryz.prog 139 #[.string ⟨l.toArray⟩] w fun e w'=>e=.returned (.tuple #[.int .i64 (takeR l).1,.int .i64 (takeR l).2])∧Ext w w':=by
 cases l with
 | nil=>exact rtr_e w
 | cons a r =>
  have hp:0<(a::r).length:=by simp
  have href:=takeR_ref (a::r)
  have ha0:(a::r)[0]?=some a:=rfl
  have hix:=idx_of (a::r) 0 a ha0
  have hnone:runR (a::r).length 0 (a::r) 0 0 (-1)=none→(takeR (a::r)).1=0∧(takeR (a::r)).2=4:=by
   intro h
   rw [h] at href
   rw [href];exact ⟨rfl,rfl⟩
  by_cases ha:a=45
  ·subst ha
   refine rtr_n (45::r) w _ rfl hp hl hix _ rfl _ _ hnone ?_
   intro V d p h
   rw [h] at href
   have hs:∀ t,signV (45::r) t=wrap64 (-t):=by intro t;unfold signV;rw [if_pos (show (45::r).head?=some 45 from rfl)]
   simp only [hs] at href
   exact href
  ·refine rtr_p (a::r) w _ rfl hp hl a hix (toNat_ne (c:=45) ha) _ rfl _ _ hnone ?_
   intro V d p h
   rw [h] at href
   have hs:∀ t,signV (a::r) t=t:=by intro t;unfold signV;rw [if_neg (by simpa using ha)]
   simp only [hs] at href
   exact href
end Go.Proofs.YtcijdkbopiaicaaGreatDoor.L2
