/- Contracts that the proof of this law leans on: no statement of the seat is proved here. -/
import Derived.Lib.ItoaLen
import Derived.Test.YtcijdkbopiaicaaGreatDoorC0
import Derived.Test.YtcijdkbopiaicaaGreatDoorC1
set_option linter.unusedVariables false
set_option maxRecDepth 100000
set_option maxHeartbeats 8000000
namespace Go.Proofs.YtcijdkbopiaicaaGreatDoor.L3
def lng (y:Int):Bool:=decide (y % 4=0∧(y % 100≠0∨y % 400=0))
def lp (y:Int):Int:=if lng y=true then 1 else 0
def dim (y m:Int):Int:=if m<1∨12<m then 0 else if m=2 then 28+lp y else if m=4∨m=6∨m=9∨m=11 then 30 else 31
def la (y:Int):Int:=(y-1) / 4-(y-1) / 100+(y-1) / 400
def st (y:Int):Int:=365 * (y-1970)+la y-477
def cum (y m:Int):Int :=
 if m≤1 then 0 else if m=2 then 31 else if m=3 then 59+lp y else if m=4 then 90+lp y else if m=5 then 120+lp y else if m=6 then 151+lp y
 else if m=7 then 181+lp y else if m=8 then 212+lp y else if m=9 then 243+lp y else if m=10 then 273+lp y else if m=11 then 304+lp y else if m=12 then 334+lp y else 365+lp y
def num (y m d:Int):Int:=st y+cum y m+d-1
structure Vld (y m d:Int):Prop where
 y1:1900≤y
 y2:y≤2200
 d1:1≤d
 d2:d≤dim y m
def vldB (y m d:Int):Bool:=decide (1900≤y∧y≤2200∧1≤d∧d≤dim y m)
theorem vldB_iff (y m d:Int):vldB y m d=true ↔ Vld y m d :=
 ⟨fun h=>by have:=of_decide_eq_true h;exact ⟨this.1,this.2.1,this.2.2.1,this.2.2.2⟩,fun h=>decide_eq_true ⟨h.y1,h.y2,h.d1,h.d2⟩⟩
theorem lp_01 (y:Int):0≤lp y∧lp y≤1:=by unfold lp;split <;> omega
theorem lng_of (y:Int)(h:y % 4=0)(k:y % 100≠0∨y % 400=0):lng y=true:=decide_eq_true ⟨h,k⟩
theorem lng_not (y:Int)(h:¬ (y % 4=0∧(y % 100≠0∨y % 400=0))):lng y=false:=decide_eq_false h
theorem lp_spec (y:Int):(y % 4=0∧(y % 100≠0∨y % 400=0)∧lp y=1)∨(¬ (y % 4=0∧(y % 100≠0∨y % 400=0))∧lp y=0):=by
 unfold lp lng
 by_cases h:y % 4=0∧(y % 100≠0∨y % 400=0)
 ·left;exact ⟨h.1,h.2,by simp [h]⟩
 ·right;exact ⟨h,by simp [h]⟩
theorem la_succ (y:Int):la (y+1)=la y+lp y:=by
 have:=lp_spec y
 unfold la
 rw [show y+1-1=y by omega]
 omega
theorem st_succ (y:Int):st (y+1)=st y+365+lp y:=by unfold st;rw [la_succ];omega
theorem st_mono (a b:Int)(h:a≤b):st a≤st b:=by unfold st la;omega
theorem st_bd (y:Int)(h:1900≤y)(k:y≤2201):-25567≤st y∧st y≤84371:=by
 have a:=st_mono 1900 y h
 have b:=st_mono y 2201 k
 have c:st 1900 = -25567:=by decide
 have d:st 2201=84371:=by decide
 omega
theorem la_bd (y:Int)(h:1900≤y)(k:y≤2201):400≤la y∧la y≤600:=by unfold la;omega
theorem dim_out (y m:Int)(h:m<1∨12<m):dim y m=0:=by unfold dim;rw [if_pos h]
theorem dim_bd (y m:Int)(h:1≤m)(k:m≤12):28≤dim y m∧dim y m≤31:=by
 have:=lp_01 y
 unfold dim;rw [if_neg (by omega)];split
 ·omega
 ·split <;> omega
theorem dim_le (y m:Int):0≤dim y m∧dim y m≤31:=by
 by_cases h:m<1∨12<m
 ·rw [dim_out _ _ h];omega
 ·have:=dim_bd y m (by omega) (by omega);omega
theorem Vld.m1 {y m d:Int}(h:Vld y m d):1≤m:=by
 by_cases k:1≤m
 ·exact k
 ·have:=dim_out y m (by omega);have:=h.d1;have:=h.d2;omega
theorem Vld.m2 {y m d:Int}(h:Vld y m d):m≤12:=by
 by_cases k:m≤12
 ·exact k
 ·have:=dim_out y m (by omega);have:=h.d1;have:=h.d2;omega
theorem Vld.d31 {y m d:Int}(h:Vld y m d):d≤31:=by have:=dim_le y m;have:=h.d2;omega
theorem cases12 {m:Int}(h:1≤m)(k:m≤12):m=1∨m=2∨m=3∨m=4∨m=5∨m=6∨m=7∨m=8∨m=9∨m=10∨m=11∨m=12:=by omega
theorem cum_succ (y m:Int)(h:1≤m)(k:m≤12):cum y (m+1)=cum y m+dim y m:=by
 rcases cases12 h k with rfl | rfl | rfl | rfl | rfl | rfl | rfl | rfl | rfl | rfl | rfl | rfl <;> simp [cum,dim] <;> omega
theorem cum_one (y:Int):cum y 1=0:=rfl
theorem cum_end (y:Int):cum y 13=365+lp y:=rfl
theorem cum_up (y a:Int)(j:Nat):1≤a→a+j≤13→cum y a≤cum y (a+j):=by
 induction j with
 | zero=>intro _ _;simp
 | succ j ih =>
  intro h1 h2
  have h3:=ih h1 (by omega)
  have h4:=cum_succ y (a+j) (by omega) (by omega)
  have h5:=dim_le y (a+j)
  rw [show a+((j+1:Nat):Int)=a+j+1 by omega]
  omega
theorem cum_bd (y m:Int)(h:1≤m)(k:m≤13):0≤cum y m∧cum y m≤366:=by
 have a:=cum_up y 1 (m-1).toNat (by omega) (by omega)
 have b:=cum_up y m (13-m).toNat (by omega) (by omega)
 rw [show (1:Int)+((m-1).toNat:Int)=m by omega,cum_one] at a
 rw [show m+((13-m).toNat:Int)=13 by omega,cum_end] at b
 have:=lp_01 y
 omega
def mtab:List Int:=[31,28,31,30,31,30,31,31,30,31,30,31]
theorem mtab_dim (y m:Int)(h:1≤m)(k:m≤12)(hn:¬ (m=2∧lng y=true)):mtab[(m-1).toNat]?=some (dim y m):=by
 rcases cases12 h k with rfl | rfl | rfl | rfl | rfl | rfl | rfl | rfl | rfl | rfl | rfl | rfl <;> simp [mtab,dim]
 have:lng y=false:=by simpa using hn
 simp [lp,this]
theorem dim_feb (y:Int)(h:lng y=true):dim y 2=29:=by simp [dim,lp,h]
theorem guess_le (n:Int)(h:-25567≤n)(k:n≤84370):1900≤1900+(n+25567) / 366∧1900+(n+25567) / 366≤2200∧st (1900+(n+25567) / 366)≤n:=by
 have h0:0≤(n+25567) / 366:=by omega
 have h1:(n+25567) / 366≤300:=by omega
 refine⟨by omega,by omega,?_⟩
 have hb:∀ j:Int,0≤j→j≤300→st (1900+j)≤366 * j-25567:=by
  intro j a b
  unfold st la;omega
 have:=hb _ h0 h1
 omega
theorem la_four (y k:Int)(h1:1900+4 * k<y+4)(h2:y≤1900+4 * k):la (1900+4 * k)=la y:=by
 unfold la;omega
theorem la_step (k:Int):la (1900+4 * (k+1))=la (1900+4 * k)+lp (1900+4 * k):=by
 have:=lp_spec (1900+4 * k)
 unfold la;omega
theorem st_before (y:Int):365 * (y-1900)+(la y-la 1900)=st y+25567:=by
 have:la 1900=460:=by decide
 unfold st;omega
end Go.Proofs.YtcijdkbopiaicaaGreatDoor.L3
namespace Go.Proofs.YtcijdkbopiaicaaGreatDoor.L3
open Go.Lib
def dgt (n:Nat):UInt8:=UInt8.ofNat (48+n % 10)
def isD (c:UInt8):Bool:=decide (48≤c.toNat)&&decide (c.toNat≤57)
def valL (l:List UInt8):Nat:=l.foldl (fun a c=>10 * a+(c.toNat-48)) 0
def fix:Nat→Nat→List UInt8
 | 0,_=>[]
 | k+1,m=>fix k (m / 10)++[dgt m]
theorem dgt_toNat (n:Nat):(dgt n).toNat=48+n % 10:=by
 unfold dgt;simp;omega
theorem isD_range {c:UInt8}(h:isD c=true):48≤c.toNat∧c.toNat≤57:=by
 unfold isD at h;simpa using h
theorem foldl_val (l:List UInt8):∀ a,l.foldl (fun a c=>10 * a+(c.toNat-48)) a=a * 10 ^ l.length+valL l:=by
 induction l with
 | nil=>intro a;simp [valL]
 | cons x t ih =>
  intro a
  have h1:=ih (10 * a+(x.toNat-48))
  have h2:=ih (10 * 0+(x.toNat-48))
  simp only [valL,List.foldl_cons,List.length_cons] at *
  rw [h1,h2,Nat.pow_succ]
  simp only [Nat.mul_zero,Nat.zero_add,Nat.add_mul]
  have:10 * a * 10 ^ t.length=a * (10 ^ t.length * 10):=by
   rw [Nat.mul_comm 10 a,Nat.mul_assoc,Nat.mul_comm 10]
  omega
theorem valL_append (a b:List UInt8):valL (a++b)=valL a * 10 ^ b.length+valL b:=by
 have:=foldl_val b (valL a)
 rw [←this];simp [valL]
theorem valL_cons (x:UInt8)(t:List UInt8):valL (x::t)=(x.toNat-48) * 10 ^ t.length+valL t:=by
 have:=valL_append [x] t
 simpa [valL] using this
theorem valL_lt (l:List UInt8)(h:l.all isD=true):valL l<10 ^ l.length:=by
 induction l with
 | nil=>simp [valL]
 | cons x t ih =>
  simp only [List.all_cons,Bool.and_eq_true] at h
  have h1:=ih h.2
  have h2:=isD_range h.1
  rw [valL_cons,List.length_cons,Nat.pow_succ]
  have:(x.toNat-48) * 10 ^ t.length≤9 * 10 ^ t.length:=Nat.mul_le_mul_right _ (by omega)
  omega
theorem fix_length (k:Nat):∀ m,(fix k m).length=k:=by
 induction k with
 | zero=>intro m;rfl
 | succ k ih=>intro m;simp [fix,ih]
def numA (y m d:Int):Int:=if vldB y m d=true then num y m d else 0
def numE (y m d:Int):Int:=if vldB y m d=true then 0 else 5
theorem numA_ok (y m d:Int)(h:Vld y m d):numA y m d=num y m d∧numE y m d=0:=by
 unfold numA numE;simp [(vldB_iff y m d).2 h]
theorem numA_no (y m d:Int)(h:¬ Vld y m d):numA y m d=0∧numE y m d=5:=by
 unfold numA numE;simp [mt (vldB_iff y m d).1 h]
def textL (y m d:Int):List UInt8:=fix 4 y.toNat++45::(fix 2 m.toNat++45::fix 2 d.toNat)
theorem text_length (y m d:Int):(textL y m d).length=10:=by simp [textL,fix_length]
def okAt (l:List UInt8)(i:Nat):Bool:=if i=4∨i=7 then l.getD i 0==45 else isD (l.getD i 0)
def formL (l:List UInt8):Bool:=decide (l.length=10)&&(List.range 10).all (okAt l)
def pY (l:List UInt8):Int:=(valL (l.take 4):Nat)
def pM (l:List UInt8):Int:=(valL ((l.drop 5).take 2):Nat)
def pD (l:List UInt8):Int:=(valL (l.drop 8):Nat)
def takA (l:List UInt8):Int:=if formL l=true then numA (pY l) (pM l) (pD l) else 0
def takE (l:List UInt8):Int:=if formL l=true then numE (pY l) (pM l) (pD l) else 4
theorem ten {l:List UInt8}(h:l.length=10):∃ c0 c1 c2 c3 c4 c5 c6 c7 c8 c9,l = [c0,c1,c2,c3,c4,c5,c6,c7,c8,c9]:=by
 match l,h with
 | [c0,c1,c2,c3,c4,c5,c6,c7,c8,c9],_=>exact ⟨c0,c1,c2,c3,c4,c5,c6,c7,c8,c9,rfl⟩
structure Form (c0 c1 c2 c3 c4 c5 c6 c7 c8 c9:UInt8):Prop where
 d0:isD c0=true
 d1:isD c1=true
 d2:isD c2=true
 d3:isD c3=true
 h4:c4=45
 d5:isD c5=true
 d6:isD c6=true
 h7:c7=45
 d8:isD c8=true
 d9:isD c9=true
theorem form_iff (c0 c1 c2 c3 c4 c5 c6 c7 c8 c9:UInt8):formL [c0,c1,c2,c3,c4,c5,c6,c7,c8,c9]=true ↔ Form c0 c1 c2 c3 c4 c5 c6 c7 c8 c9:=by
 have:(List.range 10) = [0,1,2,3,4,5,6,7,8,9]:=by decide
 unfold formL
 rw [this]
 simp only [List.length_cons,List.length_nil,List.all_cons,List.all_nil,Bool.and_eq_true,decide_eq_true_eq,okAt]
 simp
 exact⟨fun ⟨a0,a1,a2,a3,a4,a5,a6,a7,a8,a9⟩=>⟨a0,a1,a2,a3,a4,a5,a6,a7,a8,a9⟩,fun h=>⟨h.d0,h.d1,h.d2,h.d3,h.h4,h.d5,h.d6,h.h7,h.d8,h.d9⟩⟩
theorem form_not (l:List UInt8)(h:l.length≠10):formL l=false:=by unfold formL;simp [h]
theorem tak_not (l:List UInt8)(h:formL l=false):takA l=0∧takE l=4:=by unfold takA takE;simp [h]
theorem tak_form (l:List UInt8)(h:formL l=true):takA l=numA (pY l) (pM l) (pD l)∧takE l=numE (pY l) (pM l) (pD l):=by unfold takA takE;simp [h]
theorem atoi_digits (l:List UInt8)(hne:l≠[])(h:l.all isD=true):Lib.atoi l=some (valL l:Int):=by
 have key:∀ (l:List UInt8) (acc:Nat),l.all isD=true→decFrom acc l=some (acc * 10 ^ l.length+valL l):=by
  intro l
  induction l with
  | nil=>intro acc _;simp [decFrom,valL]
  | cons c t ih =>
   intro acc h
   have hc:isD c=true:=by simp at h;exact h.1
   have ht:t.all isD=true:=by simp at h;simpa using h.2
   obtain⟨r1,r2⟩:=isD_range hc
   have hd:digitVal c=some (c.toNat-48):=by unfold digitVal;rw [if_pos ⟨r1,r2⟩]
   simp only [decFrom,hd]
   rw [ih _ ht,valL_cons]
   congr 1
   rw [List.length_cons,Nat.pow_succ,Nat.add_mul,Nat.mul_assoc,Nat.mul_comm 10]
   omega
 cases l with
 | nil=>exact absurd rfl hne
 | cons c t =>
  have hc:isD c=true:=by simp at h;exact h.1
  obtain⟨r1,r2⟩:=isD_range hc
  have n1:(c==45)=false:=by
   rw [beq_eq_false_iff_ne];intro e;subst e;exact absurd r1 (by decide)
  have n2:(c==43)=false:=by
   rw [beq_eq_false_iff_ne];intro e;subst e;exact absurd r1 (by decide)
  simp only [Lib.atoi,n1,n2,decNat,List.isEmpty_cons]
  rw [key _ _ h]
  simp
end Go.Proofs.YtcijdkbopiaicaaGreatDoor.L3
namespace Go.Proofs.YtcijdkbopiaicaaGreatDoor.L3
open Go.RowKit Go.Lib
structure Env (w:World):Prop where
 mon:∀ (i:Nat) (v:Int),mtab[i]?=some v→w.cell? ⟨1,i,none⟩=some (.int .i64 v)
 pow:Lib.TabIs Tryz.prog w "internal/strconv.uint64pow10" .u64 Lib.pow10Tab
theorem Env.ext {w w':World}(h:Env w)(hx:Ext w w'):Env w':=by
 obtain⟨hm,ht⟩:=h
 refine⟨fun i v hi=>?_,?_⟩
 ·have:=hm i v hi
  rw [hx.cell _ _ (lt_of_cell this)];exact this
 ·unfold Lib.TabIs World.var? at *
  cases hg:Tryz.prog.globalNamed "internal/strconv.uint64pow10" with
  | none=>simp [hg] at ht
  | some g =>
   simp only [hg,Option.bind_some] at ht ⊢
   have hlt:g<w.heap.size:=by
    rcases Nat.lt_or_ge g w.heap.size with h' | h'
    ·exact h'
    ·rw [Array.getElem?_eq_none h'] at ht;simp at ht
   rw [hx.below.block g hlt]
   exact ht
def I64 (n:Int):Prop:=-9223372036854775808≤n∧n≤9223372036854775807
theorem tmod_zero (a b:Int):a.tmod b=0 ↔ a % b=0:=by
 rw [←Int.dvd_iff_tmod_eq_zero,←Int.dvd_iff_emod_eq_zero]
theorem ret_bool {a b:Bool}(h:a=b):Ending.returned (.bool a)=.returned (.bool b):=by rw [h]
theorem ret_int {k:IntKind}{a b:Int}(h:a=b):Ending.returned (.int k a)=.returned (.int k b):=by rw [h]
theorem long_c (y:Int)(w:World) :
  Calls Tryz.prog 229 #[.int .i64 y] w fun e w'=>e=.returned (.bool (lng y))∧w'=w:=by
 have e4:=tmod_zero y 4;have e100:=tmod_zero y 100;have e400:=tmod_zero y 400
 replace e4:=hid <| e4;replace e100:=show Hid _ from e100;replace e400:=show Hid _ from e400
 by_cases h4:y.tmod 4=0
 ·by_cases h100:y.tmod 100=0
  ·by_cases h400:y.tmod 400=0
   ·have hl:lng y=true:=lng_of y (e4.out.1 h4) (Or.inr (e400.out.1 h400))
    rw [hl]
    clear hl
    go_enter Tryz.func229,Tryz.ntmps229
    go_wp2
    go_ret
    exact⟨rfl,rfl⟩
   ·have hl:lng y=false:=lng_not y (fun k=>by have:=e100.out.1 h100;have:=mt e400.out.2 h400;omega)
    rw [hl]
    clear hl
    go_enter Tryz.func229,Tryz.ntmps229
    go_wp2
    go_ret
    exact⟨ret_bool (by simp [h400]),rfl⟩
  ·have hl:lng y=true:=lng_of y (e4.out.1 h4) (Or.inl (mt e100.out.2 h100))
   rw [hl]
   clear hl
   go_enter Tryz.func229,Tryz.ntmps229
   go_wp2
   go_ret
   exact⟨rfl,rfl⟩
 ·have hl:lng y=false:=lng_not y (fun k=>h4 (e4.out.2 k.1))
  rw [hl]
  clear hl
  go_enter Tryz.func229,Tryz.ntmps229
  go_wp2
  go_ret
  exact⟨rfl,rfl⟩
theorem month_c (y m:Int)(w:World)(hm:I64 m)(he:Hid (Env w)) :
  Calls Tryz.prog 195 #[.int .i64 y,.int .i64 m] w fun e w'=>e=.returned (.int .i64 (dim y m))∧w'=w:=by
 obtain⟨m1,m2⟩:=hm
 by_cases h1:m<1
 ·rw [dim_out y m (Or.inl h1)]
  go_enter Tryz.func195,Tryz.ntmps195
  go_wp2
  go_ret
  exact⟨rfl,rfl⟩
 ·by_cases h2:12<m
  ·rw [dim_out y m (Or.inr h2)]
   go_enter Tryz.func195,Tryz.ntmps195
   go_wp2
   go_ret
   exact⟨rfl,rfl⟩
  ·by_cases h3:m=2
   ·subst h3
    cases hl:lng y
    ·have hc:=he.out.mon 1 28 rfl
     rw [show dim y 2=28 by simp [dim,lp,hl]]
     go_enter Tryz.func195,Tryz.ntmps195
     go_wp2_with (go_at_call 229;refine (long_c _ _).mono ?_;rintro e w' ⟨rfl,rfl⟩;rw [hl])
     go_ret
     exact⟨rfl,rfl⟩
    ·have hc:=he.out.mon 1 28 rfl
     rw [dim_feb y hl]
     go_enter Tryz.func195,Tryz.ntmps195
     go_wp2_with (go_at_call 229;refine (long_c _ _).mono ?_;rintro e w' ⟨rfl,rfl⟩;rw [hl])
     go_ret
     exact⟨rfl,rfl⟩
   ·have hc:=he.out.mon _ _ (mtab_dim y m (by omega) (by omega) (fun k=>h3 k.1))
    rw [show (m-1).toNat=m.toNat-1 by omega] at hc
    generalize dim y m=v at hc ⊢
    go_enter Tryz.func195,Tryz.ntmps195
    go_wp2
    go_ret
    exact⟨rfl,rfl⟩
theorem rLong_c (y:Int)(w:World) :
  Calls Tryz.prog 104 #[.int .i64 y] w fun e w'=>e=.returned (.bool (lng y))∧w'=w:=by
 have e4:=tmod_zero y 4;have e100:=tmod_zero y 100;have e400:=tmod_zero y 400
 replace e4:=hid <| e4;replace e100:=show Hid _ from e100;replace e400:=show Hid _ from e400
 by_cases h400:y.tmod 400=0
 ·have hl:lng y=true:=lng_of y (by have:=e400.out.1 h400;omega) (Or.inr (e400.out.1 h400))
  rw [hl]
  clear hl
  go_enter Tryz.func104,Tryz.ntmps104
  go_wp2
  go_ret
  exact⟨rfl,rfl⟩
 ·by_cases h4:y.tmod 4=0
  ·by_cases h100:y.tmod 100=0
   ·have hl:lng y=false:=lng_not y (fun k=>by have:=e100.out.1 h100;have:=mt e400.out.2 h400;omega)
    rw [hl]
    clear hl
    go_enter Tryz.func104,Tryz.ntmps104
    go_wp2
    go_ret
    exact⟨rfl,rfl⟩
   ·have hl:lng y=true:=lng_of y (e4.out.1 h4) (Or.inl (mt e100.out.2 h100))
    rw [hl]
    clear hl
    go_enter Tryz.func104,Tryz.ntmps104
    go_wp2
    go_ret
    exact⟨ret_bool (by simp [h100]),rfl⟩
  ·have hl:lng y=false:=lng_not y (fun k=>h4 (e4.out.2 k.1))
   rw [hl]
   clear hl
   go_enter Tryz.func104,Tryz.ntmps104
   go_wp2
   go_ret
   exact⟨rfl,rfl⟩
theorem longAhead_c (y:Int)(w:World)(h1:1900≤y)(h2:y≤2201) :
  Calls Tryz.prog 230 #[.int .i64 y] w fun e w'=>e=.returned (.int .i64 (la y))∧w'=w:=by
 unfold la
 go_enter Tryz.func230,Tryz.ntmps230
 go_wp2
 go_ret
 exact⟨rfl,rfl⟩
theorem start_c (y:Int)(w:World)(h1:1900≤y)(h2:y≤2201) :
  Calls Tryz.prog 196 #[.int .i64 y] w fun e w'=>e=.returned (.int .i64 (st y))∧w'=w:=by
 obtain⟨b1,b2⟩:=la_bd y h1 h2
 have hl:la 1970=477:=by decide
 unfold st
 go_enter Tryz.func196,Tryz.ntmps196
 go_wp2_with (go_at_call 230;refine (longAhead_c _ _ (by omega) (by omega)).mono ?_;rintro e w' ⟨rfl,rfl⟩)
 go_ret
 exact⟨ret_int (by omega),rfl⟩
theorem known_c (y:Int)(w:World) :
  Calls Tryz.prog 194 #[.int .i64 y] w fun e w'=>e=.returned (.bool (decide (1900≤y∧y≤2200)))∧w'=w:=by
 by_cases h1:1900≤y
 ·by_cases h2:y≤2200
  ·rw [decide_eq_true (show 1900≤y∧y≤2200 from ⟨h1,h2⟩)]
   go_enter Tryz.func194,Tryz.ntmps194
   go_wp2
   go_ret
   exact⟨rfl,rfl⟩
  ·rw [decide_eq_false (show ¬ (1900≤y∧y≤2200) from fun k=>h2 k.2)]
   go_enter Tryz.func194,Tryz.ntmps194
   go_wp2
   go_ret
   exact⟨rfl,rfl⟩
 ·rw [decide_eq_false (show ¬ (1900≤y∧y≤2200) from fun k=>h1 k.1)]
  go_enter Tryz.func194,Tryz.ntmps194
  go_wp2
  go_ret
  exact⟨rfl,rfl⟩
theorem index_mon (k v:Int)(i:Nat)(hk:k=i)(hv:mtab[i]?=some v)(w:World) :
  (Instr.index 126 (.agg #[.int .i64 31,.int .i64 28,.int .i64 31,.int .i64 30,.int .i64 31,.int .i64 30,.int .i64 31,.int .i64 31,.int .i64 30,.int .i64 31,.int .i64 30,.int .i64 31]) (.int .i64 k)).run Tryz.prog w=.ok (.int .i64 v) w:=by
 have hi:i<12:=by
  rcases Nat.lt_or_ge i 12 with h | h
  ·exact h
  ·rw [List.getElem?_eq_none (by simpa [mtab] using h)] at hv;cases hv
 subst hk
 have hc:i=0∨i=1∨i=2∨i=3∨i=4∨i=5∨i=6∨i=7∨i=8∨i=9∨i=10∨i=11:=by omega
 rcases hc with rfl | rfl | rfl | rfl | rfl | rfl | rfl | rfl | rfl | rfl | rfl | rfl <;> (obtain rfl:=Option.some.inj hv;simp [Instr.index,asIntOf,run_underlying Tryz.underlying126,part,go_sem])
theorem rMonth_c (y m:Int)(w:World)(hm:I64 m) :
  Calls Tryz.prog 69 #[.int .i64 y,.int .i64 m] w fun e w'=>e=.returned (.int .i64 (dim y m))∧w'=w:=by
 obtain⟨m1,m2⟩:=hm
 by_cases h1:m<1
 ·rw [dim_out y m (Or.inl h1)]
  go_enter Tryz.func69,Tryz.ntmps69
  go_wp2
  go_ret
  exact⟨rfl,rfl⟩
 ·by_cases h2:12<m
  ·rw [dim_out y m (Or.inr h2)]
   go_enter Tryz.func69,Tryz.ntmps69
   go_wp2
   go_ret
   exact⟨rfl,rfl⟩
  ·by_cases h3:m=2
   ·subst h3
    have hx:=index_mon 1 28 1 rfl rfl
    cases hl:lng y
    ·rw [show dim y 2=28 by simp [dim,lp,hl]]
     go_enter Tryz.func69,Tryz.ntmps69
     go_wp2_with (go_at_call 104;refine (rLong_c _ _).mono ?_;rintro e w' ⟨rfl,rfl⟩;rw [hl])
     go_ret
     exact⟨rfl,rfl⟩
    ·rw [dim_feb y hl]
     go_enter Tryz.func69,Tryz.ntmps69
     go_wp2_with (go_at_call 104;refine (rLong_c _ _).mono ?_;rintro e w' ⟨rfl,rfl⟩;rw [hl])
     go_ret
     exact⟨rfl,rfl⟩
   ·have hx:=index_mon (m-1) _ _ (by omega) (mtab_dim y m (by omega) (by omega) (fun k=>h3 k.1))
    generalize dim y m=v at hx ⊢
    go_enter Tryz.func69,Tryz.ntmps69
    go_wp2
    go_ret
    exact⟨rfl,rfl⟩
theorem ahead_c (y m:Int)(w:World)(h1:1≤m)(h2:m≤12)(he:Hid (Env w)) :
  Calls Tryz.prog 197 #[.int .i64 m,.func (.func 195) #[.int .i64 y] #[]] w fun e w'=>e=.returned (.int .i64 (cum y m))∧w'=w:=by
 go_enter Tryz.func197,Tryz.ntmps197
 go_wp2
 go_loop [5,6] (fun s k=>∃ j:Int,1≤j∧j≤m∧k=.int .i64 j∧s=.int .i64 (cum y j)) (fun _ k=>(m-RowKit.intOf k).toNat)
 case atStart=>exact ⟨1,by omega,by omega,rfl,rfl⟩
 case round =>
  obtain⟨j,j1,j2,rfl,rfl⟩:=hrel
  have cb:=cum_bd y j j1 (by omega)
  obtain⟨c1,c2⟩:=cb
  have db:=dim_bd y j j1 (by omega)
  obtain⟨d1,d2⟩:=db
  have cs:=cum_succ y j j1 (by omega)
  replace cs:=hid cs
  by_cases hj:j<m
  ·go_wp2_with (go_at_call 195;refine (month_c _ _ _ (by unfold I64;omega) he).mono ?_;rintro e w' ⟨rfl,rfl⟩)
   go_round
   case rel=>exact ⟨j+1,by omega,by omega,by go_num,by rw [cs.out]⟩
   case measure=>simp [RowKit.intOf];omega
  ·obtain rfl:j=m:=by omega
   go_wp2
   go_ret
   exact⟨rfl,rfl⟩
theorem before_c (y:Int)(w:World)(h1:1900≤y)(h2:y≤2201) :
  Calls Tryz.prog 68 #[.int .i64 y] w fun e w'=>e=.returned (.int .i64 (st y+25567))∧w'=w:=by
 have hb:=st_before y
 rw [←hb]
 clear hb
 go_enter Tryz.func68,Tryz.ntmps68
 go_wp2
 go_loop [3,4] (fun s t=>∃ k:Int,0≤k∧1900+4 * k<y+4∧t=.int .i64 (1900+4 * k)∧s=.int .i64 (365 * (y-1900)+(la (1900+4 * k)-la 1900))) (fun _ t=>(y-RowKit.intOf t).toNat)
 case atStart=>exact ⟨0,by omega,by omega,rfl,by simp⟩
 case round =>
  obtain⟨k,k1,k2,rfl,rfl⟩:=hrel
  have hs:=hid <| la_step k
  obtain⟨b1,b2⟩:400≤la (1900+4 * k)∧la (1900+4 * k)≤600:=by unfold la;omega
  have b3:la 1900=460:=by decide
  rw [b3]
  generalize hq:la (1900+4 * k)=q at *
  replace hq:=hid hq
  by_cases hk:1900+4 * k<y
  ·cases hl:lng (1900+4 * k)
   ·go_wp2_with (go_at_call 104;refine (rLong_c _ _).mono ?_;rintro e w' ⟨rfl,rfl⟩;rw [hl])
    go_round
    case rel=>exact ⟨k+1,by omega,by omega,by go_num,by rw [hs.out];simp [lp,hl]⟩
    case measure=>simp [RowKit.intOf];omega
   ·go_wp2_with (go_at_call 104;refine (rLong_c _ _).mono ?_;rintro e w' ⟨rfl,rfl⟩;rw [hl])
    go_round
    case rel=>exact ⟨k+1,by omega,by omega,by go_num,by rw [hs.out];simp [lp,hl];omega⟩
    case measure=>simp [RowKit.intOf];omega
  ·have hf:=la_four y k k2 (by omega)
   go_wp2
   go_ret
   exact⟨ret_int (by rw [←hf,hq.out]),rfl⟩
theorem ret_two {a b c d:Int}(h:a=b)(k:c=d):Ending.returned (.tuple #[.int .i64 a,.int .i64 c])=.returned (.tuple #[.int .i64 b,.int .i64 d]):=by rw [h,k]
theorem known_t (y:Int)(w:World)(h1:1900≤y)(h2:y≤2200) :
  Calls Tryz.prog 194 #[.int .i64 y] w fun e w'=>e=.returned (.bool true)∧w'=w:=by
 have:=known_c y w
 rwa [decide_eq_true (show 1900≤y∧y≤2200 from ⟨h1,h2⟩)] at this
theorem known_f (y:Int)(w:World)(h:¬ (1900≤y∧y≤2200)) :
  Calls Tryz.prog 194 #[.int .i64 y] w fun e w'=>e=.returned (.bool false)∧w'=w:=by
 have:=known_c y w
 rwa [decide_eq_false h] at this
theorem Number_ok (y m d:Int)(w:World)(hv:Vld y m d)(he:Hid (Env w)) :
  Calls Tryz.prog 164 #[.agg #[.int .i64 y,.int .i64 m,.int .i64 d]] w fun e w'=>e=.returned (.tuple #[.int .i64 (num y m d),.int .i64 0])∧Ext w w':=by
 have y1:=hv.y1;have y2:=hv.y2;have d1:=hv.d1;have d2:=hv.d2;have m1:=hv.m1;have m2:=hv.m2
 have hm:I64 m:=by unfold I64;omega
 replace hm:=hid hm
 have sb:=st_bd y y1 (by omega)
 obtain⟨s1,s2⟩:=sb
 have cb:=cum_bd y m m1 (by omega)
 obtain⟨c1,c2⟩:=cb
 have d31:=hv.d31
 have hn:num y m d=st y+cum y m+d-1:=rfl
 rw [hn]
 have e1:decide (d<1)=false:=decide_eq_false (by omega)
 have e2:decide (dim y m<d)=false:=decide_eq_false (by omega)
 clear hn hv
 go_enter Tryz.func164,Tryz.ntmps164
 go_wp2
 obtain⟨W0,b,hW0,hb,hx0,k0,k1,k2⟩:=box3 w (.int .i64 y) (.int .i64 m) (.int .i64 d) 83
 rw [hW0,hb]
 clear hW0 hb
 replace hx0:=hid hx0
 replace he:Hid (Env W0):=he.out.ext hx0.out
 have j0:=Late.cell k0;have j1:=Late.cell k1;have j2:=Late.cell k2
 have hE:Hid (∀ s:Late W0,Hid (Env s.to)):=fun s=>he.out.ext s.ext
 have hNe1:Nonempty (Late W0):=⟨⟨_,Ext.refl _⟩⟩
 refine rl ?_
 repeat (go_big_quiet_step ((first
  | (go_at_call 194;exact late_same (known_t _ _ y1 y2))
  | (go_at_call 195;exact late_same (month_c _ _ _ hm.out (hE.out _))))))
 refine wpQuiet_nil ?_
 intro W1 hw'
 have hx1:=late_ext hw'
 clear hw'
 clear j0 j1 j2 hE
 replace k0:=hx1.cell_of k0;replace k1:=hx1.cell_of k1;replace k2:=hx1.cell_of k2
 replace he:Hid (Env W1):=he.out.ext hx1
 replace hx0:Hid (Ext w W1):=hx0.out.trans hx1
 clear hx1
 go_wp2
 have j0:=Late.cell k0;have j1:=Late.cell k1;have j2:=Late.cell k2
 have hE:Hid (∀ s:Late W1,Hid (Env s.to)):=fun s=>he.out.ext s.ext
 have hNe2:Nonempty (Late W1):=⟨⟨_,Ext.refl _⟩⟩
 refine rl ?_
 repeat (go_big_quiet_step ((first
  | (go_at_call 196;exact late_same (start_c _ _ y1 (by omega)))
  | (go_at_call 197;exact late_same (ahead_c _ _ _ m1 m2 (hE.out _))))))
 refine wpQuiet_nil ?_
 intro W2 hw'
 have hx2:=late_ext hw'
 clear hw'
 go_wp2
 go_ret2
 exact⟨rfl,hx0.out.trans hx2⟩
theorem Number_a (y m d:Int)(w:World)(h:¬ (1900≤y∧y≤2200))(hm:Hid (I64 m))(he:Hid (Env w)) :
  Calls Tryz.prog 164 #[.agg #[.int .i64 y,.int .i64 m,.int .i64 d]] w fun e w'=>e=.returned (.tuple #[.int .i64 0,.int .i64 5])∧Ext w w':=by
 replace h:=hid h
 go_enter Tryz.func164,Tryz.ntmps164
 go_wp2
 obtain⟨W0,b,hW0,hb,hx0,k0,k1,k2⟩:=box3 w (.int .i64 y) (.int .i64 m) (.int .i64 d) 83
 rw [hW0,hb]
 clear hW0 hb
 replace hx0:=hid hx0
 replace he:Hid (Env W0):=he.out.ext hx0.out
 have j0:=Late.cell k0;have j1:=Late.cell k1;have j2:=Late.cell k2
 have hE:Hid (∀ s:Late W0,Hid (Env s.to)):=fun s=>he.out.ext s.ext
 have hNe1:Nonempty (Late W0):=⟨⟨_,Ext.refl _⟩⟩
 refine rl ?_
 repeat (go_big_quiet_step ((first
  | (go_at_call 194;exact late_same (known_f _ _ h.out))
  | (go_at_call 195;exact late_same (month_c _ _ _ hm.out (hE.out _))))))
 refine wpQuiet_nil ?_
 intro W1 hw'
 have hx1:=late_ext hw'
 clear hw'
 go_wp2
 go_ret2
 exact⟨rfl,hx0.out.trans hx1⟩
theorem Number_b (y m d:Int)(w:World)(y1:1900≤y)(y2:y≤2200)(h:d<1)(hm:Hid (I64 m))(he:Hid (Env w)) :
  Calls Tryz.prog 164 #[.agg #[.int .i64 y,.int .i64 m,.int .i64 d]] w fun e w'=>e=.returned (.tuple #[.int .i64 0,.int .i64 5])∧Ext w w':=by
 have e1:decide (d<1)=true:=decide_eq_true h
 go_enter Tryz.func164,Tryz.ntmps164
 go_wp2
 obtain⟨W0,b,hW0,hb,hx0,k0,k1,k2⟩:=box3 w (.int .i64 y) (.int .i64 m) (.int .i64 d) 83
 rw [hW0,hb]
 clear hW0 hb
 replace hx0:=hid hx0
 replace he:Hid (Env W0):=he.out.ext hx0.out
 have j0:=Late.cell k0;have j1:=Late.cell k1;have j2:=Late.cell k2
 have hE:Hid (∀ s:Late W0,Hid (Env s.to)):=fun s=>he.out.ext s.ext
 have hNe1:Nonempty (Late W0):=⟨⟨_,Ext.refl _⟩⟩
 refine rl ?_
 repeat (go_big_quiet_step ((first
  | (go_at_call 194;exact late_same (known_t _ _ y1 y2))
  | (go_at_call 195;exact late_same (month_c _ _ _ hm.out (hE.out _))))))
 refine wpQuiet_nil ?_
 intro W1 hw'
 have hx1:=late_ext hw'
 clear hw'
 go_wp2
 go_ret2
 exact⟨rfl,hx0.out.trans hx1⟩
theorem Number_d (y m d:Int)(w:World)(y1:1900≤y)(y2:y≤2200)(h1:¬ d<1)(h:dim y m<d)(hm:Hid (I64 m))(he:Hid (Env w)) :
  Calls Tryz.prog 164 #[.agg #[.int .i64 y,.int .i64 m,.int .i64 d]] w fun e w'=>e=.returned (.tuple #[.int .i64 0,.int .i64 5])∧Ext w w':=by
 have e1:decide (d<1)=false:=decide_eq_false h1
 have e2:decide (dim y m<d)=true:=decide_eq_true h
 go_enter Tryz.func164,Tryz.ntmps164
 go_wp2
 obtain⟨W0,b,hW0,hb,hx0,k0,k1,k2⟩:=box3 w (.int .i64 y) (.int .i64 m) (.int .i64 d) 83
 rw [hW0,hb]
 clear hW0 hb
 replace hx0:=hid hx0
 replace he:Hid (Env W0):=he.out.ext hx0.out
 have j0:=Late.cell k0;have j1:=Late.cell k1;have j2:=Late.cell k2
 have hE:Hid (∀ s:Late W0,Hid (Env s.to)):=fun s=>he.out.ext s.ext
 have hNe1:Nonempty (Late W0):=⟨⟨_,Ext.refl _⟩⟩
 refine rl ?_
 repeat (go_big_quiet_step ((first
  | (go_at_call 194;exact late_same (known_t _ _ y1 y2))
  | (go_at_call 195;exact late_same (month_c _ _ _ hm.out (hE.out _))))))
 refine wpQuiet_nil ?_
 intro W1 hw'
 have hx1:=late_ext hw'
 clear hw'
 go_wp2
 go_ret2
 exact⟨rfl,hx0.out.trans hx1⟩
theorem Number_no (y m d:Int)(w:World)(hv:¬ Vld y m d)(hm:I64 m)(he:Hid (Env w)) :
  Calls Tryz.prog 164 #[.agg #[.int .i64 y,.int .i64 m,.int .i64 d]] w fun e w'=>e=.returned (.tuple #[.int .i64 0,.int .i64 5])∧Ext w w':=by
 by_cases h:1900≤y∧y≤2200
 ·by_cases h1:d<1
  ·exact Number_b y m d w h.1 h.2 h1 hm he
  ·by_cases h2:dim y m<d
   ·exact Number_d y m d w h.1 h.2 h1 h2 hm he
   ·exact absurd ⟨h.1,h.2,by omega,by omega⟩ hv
 ·exact Number_a y m d w h hm he
theorem Number_c (y m d:Int)(w:World)(hm:I64 m)(he:Hid (Env w)) :
  Calls Tryz.prog 164 #[.agg #[.int .i64 y,.int .i64 m,.int .i64 d]] w fun e w'=>e=.returned (.tuple #[.int .i64 (numA y m d),.int .i64 (numE y m d)])∧Ext w w':=by
 by_cases h:Vld y m d
 ·rw [(numA_ok y m d h).1,(numA_ok y m d h).2];exact Number_ok y m d w h he
 ·rw [(numA_no y m d h).1,(numA_no y m d h).2];exact Number_no y m d w h hm he
theorem rNumber_ok (y m d:Int)(w:World)(hv:Vld y m d)(he:Hid (Env w)) :
  Calls Tryz.prog 173 #[.agg #[.int .i64 y,.int .i64 m,.int .i64 d]] w fun e w'=>e=.returned (.tuple #[.int .i64 (num y m d),.int .i64 0])∧Ext w w':=by
 have y1:=hv.y1;have y2:=hv.y2;have d1:=hv.d1;have d2:=hv.d2;have m1:=hv.m1;have m2:=hv.m2
 have hm:I64 m:=by unfold I64;omega
 replace hm:=hid hm
 have sb:=st_bd y y1 (by omega)
 obtain⟨s1,s2⟩:=sb
 have cb:=cum_bd y m m1 (by omega)
 obtain⟨c1,c2⟩:=cb
 have d31:=hv.d31
 have hn:num y m d=st y+cum y m+d-1:=rfl
 replace hn:=hid hn
 have e3:decide (y<1900)=false:=decide_eq_false (by omega)
 have e4:decide (2200<y)=false:=decide_eq_false (by omega)
 have e1:decide (d<1)=false:=decide_eq_false (by omega)
 have e2:decide (dim y m<d)=false:=decide_eq_false (by omega)
 clear hv
 go_enter Tryz.func173,Tryz.ntmps173
 go_wp2
 obtain⟨W0,b,hW0,hb,hx0,k0,k1,k2⟩:=box3 w (.int .i64 y) (.int .i64 m) (.int .i64 d) 83
 rw [hW0,hb]
 clear hW0 hb
 replace hx0:=hid hx0
 replace he:Hid (Env W0):=he.out.ext hx0.out
 have j0:=Late.cell k0;have j1:=Late.cell k1;have j2:=Late.cell k2
 have hE:Hid (∀ s:Late W0,Hid (Env s.to)):=fun s=>he.out.ext s.ext
 have hNe1:Nonempty (Late W0):=⟨⟨_,Ext.refl _⟩⟩
 refine rl ?_
 repeat (go_big_quiet_step ((first
  | (go_at_call 69;exact late_same (rMonth_c _ _ _ hm.out)))))
 refine wpQuiet_nil ?_
 intro W1 hw'
 have hx1:=late_ext hw'
 clear hw'
 clear j0 j1 j2 hE
 replace k0:=hx1.cell_of k0;replace k1:=hx1.cell_of k1;replace k2:=hx1.cell_of k2
 replace he:Hid (Env W1):=he.out.ext hx1
 replace hx0:Hid (Ext w W1):=hx0.out.trans hx1
 clear hx1
 go_wp2
 have j0:=Late.cell k0;have j1:=Late.cell k1;have j2:=Late.cell k2
 have hE:Hid (∀ s:Late W1,Hid (Env s.to)):=fun s=>he.out.ext s.ext
 have hNe2:Nonempty (Late W1):=⟨⟨_,Ext.refl _⟩⟩
 refine rl ?_
 repeat (go_big_quiet_step ((first
  | (go_at_call 68;exact late_same (before_c _ _ y1 (by omega))))))
 refine wpQuiet_nil ?_
 intro W2 hw'
 have hx2:=late_ext hw'
 clear hw'
 clear j0 j1 j2 hE
 replace k0:=hx2.cell_of k0;replace k1:=hx2.cell_of k1;replace k2:=hx2.cell_of k2
 replace hx0:Hid (Ext w W2):=hx0.out.trans hx2
 clear hx2
 go_wp2
 go_loop [4,5] (fun s t=>∃ j:Int,1≤j∧j≤m∧t=.int .i64 j∧s=.int .i64 (st y+cum y j+d-1)) (fun _ t=>(m-RowKit.intOf t).toNat)
 case atStart=>exact ⟨1,by omega,by omega,rfl,by rw [cum_one];go_num⟩
 case round =>
  obtain⟨j,a1,a2,rfl,rfl⟩:=hrel
  obtain⟨b1,b2⟩:=cum_bd y j a1 (by omega)
  obtain⟨b3,b4⟩:=dim_bd y j a1 (by omega)
  have cs:=hid <| cum_succ y j a1 (by omega)
  by_cases hj:j<m
  ·go_wp2_with (go_at_call 69;refine (rMonth_c _ _ _ (by unfold I64;omega)).mono ?_;rintro e w' ⟨rfl,rfl⟩)
   go_round
   case rel=>exact ⟨j+1,by omega,by omega,by go_num,by rw [cs.out];go_num⟩
   case measure=>simp [RowKit.intOf];omega
  ·obtain rfl:j=m:=by omega
   go_wp2
   go_ret2
   exact⟨ret_two hn.out.symm rfl,hx0.out⟩
theorem rNumber_a (y m d:Int)(w:World)(h:y<1900)(hm:Hid (I64 m))(he:Hid (Env w)) :
  Calls Tryz.prog 173 #[.agg #[.int .i64 y,.int .i64 m,.int .i64 d]] w fun e w'=>e=.returned (.tuple #[.int .i64 0,.int .i64 5])∧Ext w w':=by
 have e1:decide (y<1900)=true:=decide_eq_true h
 go_enter Tryz.func173,Tryz.ntmps173
 go_wp2
 obtain⟨W0,b,hW0,hb,hx0,k0,k1,k2⟩:=box3 w (.int .i64 y) (.int .i64 m) (.int .i64 d) 83
 rw [hW0,hb]
 clear hW0 hb
 replace hx0:=hid hx0
 replace he:Hid (Env W0):=he.out.ext hx0.out
 have j0:=Late.cell k0;have j1:=Late.cell k1;have j2:=Late.cell k2
 have hE:Hid (∀ s:Late W0,Hid (Env s.to)):=fun s=>he.out.ext s.ext
 have hNe1:Nonempty (Late W0):=⟨⟨_,Ext.refl _⟩⟩
 refine rl ?_
 repeat (go_big_quiet_step ((first
  | (go_at_call 69;exact late_same (rMonth_c _ _ _ hm.out)))))
 refine wpQuiet_nil ?_
 intro W1 hw'
 have hx1:=late_ext hw'
 clear hw'
 go_wp2
 go_ret2
 exact⟨rfl,hx0.out.trans hx1⟩
theorem rNumber_b (y m d:Int)(w:World)(h0:¬ y<1900)(h:2200<y)(hm:Hid (I64 m))(he:Hid (Env w)) :
  Calls Tryz.prog 173 #[.agg #[.int .i64 y,.int .i64 m,.int .i64 d]] w fun e w'=>e=.returned (.tuple #[.int .i64 0,.int .i64 5])∧Ext w w':=by
 have e1:decide (y<1900)=false:=decide_eq_false h0
 have e2:decide (2200<y)=true:=decide_eq_true h
 go_enter Tryz.func173,Tryz.ntmps173
 go_wp2
 obtain⟨W0,b,hW0,hb,hx0,k0,k1,k2⟩:=box3 w (.int .i64 y) (.int .i64 m) (.int .i64 d) 83
 rw [hW0,hb]
 clear hW0 hb
 replace hx0:=hid hx0
 replace he:Hid (Env W0):=he.out.ext hx0.out
 have j0:=Late.cell k0;have j1:=Late.cell k1;have j2:=Late.cell k2
 have hE:Hid (∀ s:Late W0,Hid (Env s.to)):=fun s=>he.out.ext s.ext
 have hNe1:Nonempty (Late W0):=⟨⟨_,Ext.refl _⟩⟩
 refine rl ?_
 repeat (go_big_quiet_step ((first
  | (go_at_call 69;exact late_same (rMonth_c _ _ _ hm.out)))))
 refine wpQuiet_nil ?_
 intro W1 hw'
 have hx1:=late_ext hw'
 clear hw'
 go_wp2
 go_ret2
 exact⟨rfl,hx0.out.trans hx1⟩
theorem rNumber_d (y m d:Int)(w:World)(h0:¬ y<1900)(h1:¬ 2200<y)(h:d<1)(hm:Hid (I64 m))(he:Hid (Env w)) :
  Calls Tryz.prog 173 #[.agg #[.int .i64 y,.int .i64 m,.int .i64 d]] w fun e w'=>e=.returned (.tuple #[.int .i64 0,.int .i64 5])∧Ext w w':=by
 have e1:decide (y<1900)=false:=decide_eq_false h0
 have e2:decide (2200<y)=false:=decide_eq_false h1
 have e3:decide (d<1)=true:=decide_eq_true h
 go_enter Tryz.func173,Tryz.ntmps173
 go_wp2
 obtain⟨W0,b,hW0,hb,hx0,k0,k1,k2⟩:=box3 w (.int .i64 y) (.int .i64 m) (.int .i64 d) 83
 rw [hW0,hb]
 clear hW0 hb
 replace hx0:=hid hx0
 replace he:Hid (Env W0):=he.out.ext hx0.out
 have j0:=Late.cell k0;have j1:=Late.cell k1;have j2:=Late.cell k2
 have hE:Hid (∀ s:Late W0,Hid (Env s.to)):=fun s=>he.out.ext s.ext
 have hNe1:Nonempty (Late W0):=⟨⟨_,Ext.refl _⟩⟩
 refine rl ?_
 repeat (go_big_quiet_step ((first
  | (go_at_call 69;exact late_same (rMonth_c _ _ _ hm.out)))))
 refine wpQuiet_nil ?_
 intro W1 hw'
 have hx1:=late_ext hw'
 clear hw'
 go_wp2
 go_ret2
 exact⟨rfl,hx0.out.trans hx1⟩
theorem rNumber_e (y m d:Int)(w:World)(h0:¬ y<1900)(h1:¬ 2200<y)(h2:¬ d<1)(h:dim y m<d)(hm:Hid (I64 m))(he:Hid (Env w)) :
  Calls Tryz.prog 173 #[.agg #[.int .i64 y,.int .i64 m,.int .i64 d]] w fun e w'=>e=.returned (.tuple #[.int .i64 0,.int .i64 5])∧Ext w w':=by
 have e1:decide (y<1900)=false:=decide_eq_false h0
 have e2:decide (2200<y)=false:=decide_eq_false h1
 have e3:decide (d<1)=false:=decide_eq_false h2
 have e4:decide (dim y m<d)=true:=decide_eq_true h
 go_enter Tryz.func173,Tryz.ntmps173
 go_wp2
 obtain⟨W0,b,hW0,hb,hx0,k0,k1,k2⟩:=box3 w (.int .i64 y) (.int .i64 m) (.int .i64 d) 83
 rw [hW0,hb]
 clear hW0 hb
 replace hx0:=hid hx0
 replace he:Hid (Env W0):=he.out.ext hx0.out
 have j0:=Late.cell k0;have j1:=Late.cell k1;have j2:=Late.cell k2
 have hE:Hid (∀ s:Late W0,Hid (Env s.to)):=fun s=>he.out.ext s.ext
 have hNe1:Nonempty (Late W0):=⟨⟨_,Ext.refl _⟩⟩
 refine rl ?_
 repeat (go_big_quiet_step ((first
  | (go_at_call 69;exact late_same (rMonth_c _ _ _ hm.out)))))
 refine wpQuiet_nil ?_
 intro W1 hw'
 have hx1:=late_ext hw'
 clear hw'
 go_wp2
 go_ret2
 exact⟨rfl,hx0.out.trans hx1⟩
theorem rNumber_no (y m d:Int)(w:World)(hv:¬ Vld y m d)(hm:I64 m)(he:Hid (Env w)) :
  Calls Tryz.prog 173 #[.agg #[.int .i64 y,.int .i64 m,.int .i64 d]] w fun e w'=>e=.returned (.tuple #[.int .i64 0,.int .i64 5])∧Ext w w':=by
 by_cases h0:y<1900
 ·exact rNumber_a y m d w h0 hm he
 ·by_cases h1:2200<y
  ·exact rNumber_b y m d w h0 h1 hm he
  ·by_cases h2:d<1
   ·exact rNumber_d y m d w h0 h1 h2 hm he
   ·by_cases h3:dim y m<d
    ·exact rNumber_e y m d w h0 h1 h2 h3 hm he
    ·exact absurd ⟨by omega,by omega,by omega,by omega⟩ hv
theorem rNumber_c (y m d:Int)(w:World)(hm:I64 m)(he:Hid (Env w)) :
  Calls Tryz.prog 173 #[.agg #[.int .i64 y,.int .i64 m,.int .i64 d]] w fun e w'=>e=.returned (.tuple #[.int .i64 (numA y m d),.int .i64 (numE y m d)])∧Ext w w':=by
 by_cases h:Vld y m d
 ·rw [(numA_ok y m d h).1,(numA_ok y m d h).2];exact rNumber_ok y m d w h he
 ·rw [(numA_no y m d h).1,(numA_no y m d h).2];exact rNumber_no y m d w h hm he
theorem Is_t (n:Int)(w:World)(h1:-25567≤n)(h2:n≤84370) :
  Calls Tryz.prog 67 #[.int .i64 n] w fun e w'=>e=.returned (.bool true)∧w'=w:=by
 go_enter Tryz.func67,Tryz.ntmps67
 go_wp2
 go_ret
 exact⟨rfl,rfl⟩
theorem Is_f (n:Int)(w:World)(h:n < -25567∨84370<n) :
  Calls Tryz.prog 67 #[.int .i64 n] w fun e w'=>e=.returned (.bool false)∧w'=w:=by
 rcases h with h | h
 ·have h':¬ -25567≤n:=by omega
  go_enter Tryz.func67,Tryz.ntmps67
  go_wp2
  go_ret
  exact⟨rfl,rfl⟩
 ·have h':-25567≤n:=by omega
  have h2:¬ n≤84370:=by omega
  go_enter Tryz.func67,Tryz.ntmps67
  go_wp2
  go_ret
  exact⟨rfl,rfl⟩
def cellInt (w:World)(b o:Nat):Int:=match w.cell? ⟨b,o,none⟩ with | some (.int _ n)=>n | _=>0
theorem cellInt_of {w:World}{b o:Nat}{k:IntKind}{n:Int}(h:w.cell? ⟨b,o,none⟩=some (.int k n)):cellInt w b o=n:=by unfold cellInt;rw [h]
structure Dst (w wr:World)(r b:Nat)(y m d:Int):Prop where
 ext:Ext w wr
 lo:w.heap.size≤r
 ne:r<b
 r0:wr.cell? ⟨r,0,none⟩=some (.int .i64 0)
 r1:wr.cell? ⟨r,1,none⟩=some (.int .i64 0)
 r2:wr.cell? ⟨r,2,none⟩=some (.int .i64 0)
 b0:wr.cell? ⟨b,0,none⟩=some (.int .i64 y)
 b1:wr.cell? ⟨b,1,none⟩=some (.int .i64 m)
 b2:wr.cell? ⟨b,2,none⟩=some (.int .i64 d)
 f0:wr.frozen? ⟨r,0,none⟩=false
 f1:wr.frozen? ⟨r,1,none⟩=false
 f2:wr.frozen? ⟨r,2,none⟩=false
 g0:wr.frozen? ⟨b,0,none⟩=false
 g1:wr.frozen? ⟨b,1,none⟩=false
 g2:wr.frozen? ⟨b,2,none⟩=false
theorem Dst.start (w:World)(y m:Int)(t:TypeId) :
  ∃ W r b,(w.alloc (.cells #[.int .i64 0,.int .i64 0,.int .i64 0] t)).alloc (.cells #[.int .i64 y,.int .i64 m,.int .i64 0] t)=W∧w.heap.size=r∧r+1=b∧Dst w W r b y m 0 :=
 ⟨_,_,_,rfl,rfl,rfl,((Ext.refl w).alloc _ _).alloc _ _,Nat.le_refl _,by omega,by simp [go_sem],by simp [go_sem],by simp [go_sem],by simp [go_sem],by simp [go_sem],by simp [go_sem],
  by simp [go_sem],by simp [go_sem],by simp [go_sem],by simp [go_sem],by simp [go_sem],by simp [go_sem]⟩
theorem other {w:World}{b o b' o':Nat}(x:Value)(h:b≠b'∨o≠o'):(w.setCell ⟨b,o,none⟩ x).cell? ⟨b',o',none⟩=w.cell? ⟨b',o',none⟩ :=
 by
  apply World.cell?_setCell_other
  intro e
  injection e with e1 e2
  omega
theorem same {w:World}{a:Addr}{v u:Value}(h:w.cell? a=some u):(w.setCell a v).cell? a=some v:=by
 apply World.cell?_setCell_same
 exact h
theorem Dst.year {w wr:World}{r b:Nat}{y m d:Int}(h:Dst w wr r b y m d)(z:Int):Dst w (wr.setCell ⟨b,0,none⟩ (.int .i64 z)) r b z m d:=by
 have:=h.ne;have:=h.lo
 exact⟨h.ext.setCell (show w.heap.size≤b by omega) _,h.lo,h.ne,by rw [other _ (by omega)];exact h.r0,by rw [other _ (by omega)];exact h.r1,by rw [other _ (by omega)];exact h.r2,
  same h.b0,by rw [other _ (by omega)];exact h.b1,by rw [other _ (by omega)];exact h.b2,
  by simpa using h.f0,by simpa using h.f1,by simpa using h.f2,by simpa using h.g0,by simpa using h.g1,by simpa using h.g2⟩
theorem Dst.month {w wr:World}{r b:Nat}{y m d:Int}(h:Dst w wr r b y m d)(z:Int):Dst w (wr.setCell ⟨b,1,none⟩ (.int .i64 z)) r b y z d:=by
 have:=h.ne;have:=h.lo
 exact⟨h.ext.setCell (show w.heap.size≤b by omega) _,h.lo,h.ne,by rw [other _ (by omega)];exact h.r0,by rw [other _ (by omega)];exact h.r1,by rw [other _ (by omega)];exact h.r2,
  by rw [other _ (by omega)];exact h.b0,same h.b1,by rw [other _ (by omega)];exact h.b2,
  by simpa using h.f0,by simpa using h.f1,by simpa using h.f2,by simpa using h.g0,by simpa using h.g1,by simpa using h.g2⟩
theorem Dst.day {w wr:World}{r b:Nat}{y m d:Int}(h:Dst w wr r b y m d)(z:Int):Dst w (wr.setCell ⟨b,2,none⟩ (.int .i64 z)) r b y m z:=by
 have:=h.ne;have:=h.lo
 exact⟨h.ext.setCell (show w.heap.size≤b by omega) _,h.lo,h.ne,by rw [other _ (by omega)];exact h.r0,by rw [other _ (by omega)];exact h.r1,by rw [other _ (by omega)];exact h.r2,
  by rw [other _ (by omega)];exact h.b0,by rw [other _ (by omega)];exact h.b1,same h.b2,
  by simpa using h.f0,by simpa using h.f1,by simpa using h.f2,by simpa using h.g0,by simpa using h.g1,by simpa using h.g2⟩
theorem Dst.done {w wr:World}{r b:Nat}{y m d:Int}(h:Dst w wr r b y m d)(z:Int) :
  ∃ W,(((wr.setCell ⟨b,2,none⟩ (.int .i64 z)).setCell ⟨r,0,none⟩ (.int .i64 y)).setCell ⟨r,1,none⟩ (.int .i64 m)).setCell ⟨r,2,none⟩ (.int .i64 z)=W ∧
   W.cell? ⟨r,0,none⟩=some (.int .i64 y)∧W.cell? ⟨r,1,none⟩=some (.int .i64 m)∧W.cell? ⟨r,2,none⟩=some (.int .i64 z)∧Ext w W:=by
 have k:=h.day z
 have:=h.ne;have:=h.lo
 refine⟨_,rfl,?_,?_,?_,?_⟩
 ·rw [other _ (by omega),other _ (by omega)];exact same k.r0
 ·rw [other _ (by omega)];exact same (by rw [other _ (by omega)];exact k.r1)
 ·exact same (by rw [other _ (by omega),other _ (by omega)];exact k.r2)
 ·exact ((k.ext.setCell (show w.heap.size≤r from h.lo) _).setCell (show w.heap.size≤r from h.lo) _).setCell (show w.heap.size≤r from h.lo) _
theorem rDate_ok (n:Int)(w:World)(h1:-25567≤n)(h2:n≤84370) :
  Calls Tryz.prog 43 #[.int .i64 n] w fun e w'=>(∃ y m d:Int,e=.returned (.tuple #[.agg #[.int .i64 y,.int .i64 m,.int .i64 d],.int .i64 0])∧Vld y m d∧num y m d=n)∧Ext w w':=by
 obtain⟨g1,g2,g3⟩:=guess_le n h1 h2
 go_enter Tryz.func43,Tryz.ntmps43
 go_wp2_with (go_at_call 67;refine (Is_t _ _ h1 h2).mono ?_;rintro e w' ⟨rfl,rfl⟩)
 obtain⟨W0,r,b,hW,hr,hb,hd⟩:=Dst.start w (1900+(n+25567) / 366) 1 83
 rw [hW,hr,hb]
 clear hW hr hb
 replace hd:=hid hd
 generalize hy0:1900+(n+25567) / 366=y0 at *
 clear hy0
 go_loopw [] (fun wr=>∃ y:Int,1900≤y∧y≤2200∧st y≤n∧Hid (Dst w wr r b y 1 0)) (fun wr=>(2200-cellInt wr b 0).toNat)
 case atStart=>exact ⟨y0,g1,g2,g3,hd⟩
 case round =>
  clear g1 g2 g3 hd
  obtain⟨y,y1,y2,y3,hd⟩:=hrel
  have c0:=hd.out.b0;have c1:=hd.out.b1;have c2:=hd.out.b2;have g0:=hd.out.g0
  have hs:=hid <| st_succ y
  obtain⟨b1,b2⟩:=st_bd (y+1) (by omega) (by omega)
  by_cases hc:st (y+1)≤n
  ·have y4:y<2200:=by
    rcases Int.lt_or_le y 2200 with k | k
    ·exact k
    ·obtain rfl:y=2200:=by omega
     have:st (2200+1)=84371:=by decide
     omega
   go_wp2_with (go_at_call 68;refine (before_c _ _ (by omega) (by omega)).mono ?_;rintro e w' ⟨rfl,rfl⟩)
   go_roundw
   case rel=>exact ⟨y+1,by omega,by omega,hc,hd.out.year (y+1)⟩
   case measure=>rw [cellInt_of (hd.out.year (y+1)).b0,cellInt_of c0];omega
  ·have y5:n<st y+365+lp y:=by have:=hs.out;omega
   obtain⟨s1,s2⟩:=st_bd y y1 (by omega)
   obtain⟨l1,l2⟩:=lp_01 y
   go_wp2_with (go_at_call 68;refine (before_c _ _ (by omega) (by omega)).mono ?_;rintro e w' ⟨rfl,rfl⟩)
   clear c0 c1 c2 g0 hs hc
   go_loopw [4] (fun t wr=>∃ m:Int,1≤m∧m≤12∧cum y m≤n-st y∧t=.int .i64 (n-st y-cum y m)∧Hid (Dst w wr r b y m 0)) (fun _ wr=>(12-cellInt wr b 1).toNat)
   case atStart=>exact ⟨1,by omega,by omega,by rw [cum_one];omega,by rw [cum_one];go_num,hd⟩
   case round =>
    clear hd
    obtain⟨m,m1,m2,m3,rfl,hd⟩:=hrel
    have c0:=hd.out.b0;have c1:=hd.out.b1;have c2:=hd.out.b2;have g1:=hd.out.g1;have g2:=hd.out.g2
    obtain⟨k1,k2⟩:=cum_bd y m m1 (by omega)
    obtain⟨k3,k4⟩:=dim_bd y m m1 (by omega)
    have cs:=hid <| cum_succ y m m1 (by omega)
    have ce:=hid <| cum_end y
    by_cases hj:dim y m≤n-st y-cum y m
    ·have j3:m<12:=by
      have:=cs.out;have:=ce.out
      rcases Int.lt_or_le m 12 with k | k
      ·exact k
      ·obtain rfl:m=12:=by omega
       simp only [show (12:Int)+1=13 from rfl] at this cs
       have:=cs.out
       omega
     go_wp2_with (go_at_call 69;refine (rMonth_c _ _ _ (by unfold I64;omega)).mono ?_;rintro e w' ⟨rfl,rfl⟩)
     go_roundw
     case rel=>exact ⟨m+1,by omega,by omega,by rw [cs.out];omega,by rw [cs.out];go_num,hd.out.month (m+1)⟩
     case measure=>rw [cellInt_of (hd.out.month (m+1)).b1,cellInt_of c1];omega
    ·have hv:Hid (Vld y m (n-st y-cum y m+1)):=⟨y1,y2,by omega,by omega⟩
     have hn:Hid (num y m (n-st y-cum y m+1)=n):=by show num y m _=n;unfold num;omega
     have q0:=hd.out.r0;have q1:=hd.out.r1;have q2:=hd.out.r2
     have f0:=hd.out.f0;have f1:=hd.out.f1;have f2:=hd.out.f2;have lo:=hd.out.lo;have ne:=hd.out.ne
     clear cs ce
     go_wp2_with (go_at_call 69;refine (rMonth_c _ _ _ (by unfold I64;omega)).mono ?_;rintro e w' ⟨rfl,rfl⟩)
     obtain⟨W,hW,z0,z1,z2,hX⟩:=hd.out.done (n-st y-cum y m+1)
     rw [hW]
     clear hW
     exact bodyPost_ret (v:=.tuple #[.agg #[.int .i64 y,.int .i64 m,.int .i64 (n-st y-cum y m+1)],.int .i64 0]) (by simp [results,Tryz.results43,go_sem,z0,z1,z2]) rfl ⟨⟨y,m,_,rfl,hv.out,hn.out⟩,hX⟩
@[go_sem] theorem app_mk (a b:List UInt8):(⟨a.toArray⟩:ByteArray)++(⟨b.toArray⟩:ByteArray)=⟨(a++b).toArray⟩:=by
 apply ByteArray.ext
 simp
theorem digit_t (c:UInt8)(w:World)(h:isD c=true) :
  Calls Tryz.prog 193 #[.int .u8 (c.toNat:Int)] w fun e w'=>e=.returned (.bool true)∧w'=w:=by
 obtain⟨h1,h2⟩:=isD_range h
 have k1:(48:Int)≤(c.toNat:Int):=by omega
 have k2:(c.toNat:Int)≤57:=by omega
 clear h h1 h2
 generalize (c.toNat:Int)=x at *
 go_enter Tryz.func193,Tryz.ntmps193
 go_wp2
 go_ret
 exact⟨rfl,rfl⟩
theorem digit_f (c:UInt8)(w:World)(h:isD c=false) :
  Calls Tryz.prog 193 #[.int .u8 (c.toNat:Int)] w fun e w'=>e=.returned (.bool false)∧w'=w:=by
 by_cases k1:(48:Int)≤(c.toNat:Int)
 ·have k2:¬ (c.toNat:Int)≤57:=fun k2=>by
   have:isD c=true:=by unfold isD;simp;omega
   rw [this] at h;cases h
  clear h
  generalize (c.toNat:Int)=x at *
  go_enter Tryz.func193,Tryz.ntmps193
  go_wp2
  go_ret
  exact⟨rfl,rfl⟩
 ·clear h
  generalize (c.toNat:Int)=x at *
  go_enter Tryz.func193,Tryz.ntmps193
  go_wp2
  go_ret
  exact⟨rfl,rfl⟩
theorem number_c (l:List UInt8)(w:World)(hne:l≠[])(h:l.all isD=true)(hl:l.length≤18) :
  Calls Tryz.prog 165 #[.string ⟨l.toArray⟩] w fun e w'=>e=.returned (.int .i64 (valL l:Nat))∧Ext w w':=by
 have ha:=hid <| atoi_digits l hne h
 go_enter Tryz.func165,Tryz.ntmps165
 go_wp2_with fail
 refine (Tryz.strconv_Atoi ⟨l.toArray⟩ _ (by rw [Lib.size_mk];exact hl) ha.out _).mono ?_
 rintro e w1 ⟨rfl,t,rfl⟩
 have hx:Hid (Ext w (Lib.bytesWorld w 5 t)):=⟨Lib.bytesWorld_below w 5 t⟩
 generalize Lib.bytesWorld w 5 t=w1 at *
 go_wp2
 go_ret
 exact⟨rfl,hx.out⟩
theorem formed_no (l:List UInt8)(w:World)(h:l.length≠10)(hl:l.length≤1000000) :
  Calls Tryz.prog 163 #[.string ⟨l.toArray⟩] w fun e w'=>e=.returned (.bool false)∧w'=w:=by
 have k:¬ (l.length:Int)=10:=by omega
 go_enter Tryz.func163,Tryz.ntmps163
 go_wp2
 go_ret
 exact⟨rfl,rfl⟩
theorem formed_c (c0 c1 c2 c3 c4 c5 c6 c7 c8 c9:UInt8)(w:World) :
  Calls Tryz.prog 163 #[.string ⟨#[c0,c1,c2,c3,c4,c5,c6,c7,c8,c9]⟩] w fun e w'=>e=.returned (.bool (formL [c0,c1,c2,c3,c4,c5,c6,c7,c8,c9]))∧w'=w:=by
 have hfi:=hid <| form_iff c0 c1 c2 c3 c4 c5 c6 c7 c8 c9
 generalize formL [c0,c1,c2,c3,c4,c5,c6,c7,c8,c9]=B at *
 go_enter Tryz.func163,Tryz.ntmps163
 go_wp2
 go_loop [7] (fun t=>∃ k:Nat,k≤10∧t=.int .i64 (k:Int)∧Hid (∀ j,j<k→okAt [c0,c1,c2,c3,c4,c5,c6,c7,c8,c9] j=true)) (fun t=>(10-RowKit.intOf t).toNat)
 case atStart=>exact ⟨0,by omega,rfl,fun j hj=>absurd hj (Nat.not_lt_zero j)⟩
 case round =>
  obtain⟨k,hk,rfl,hall⟩:=hrel
  have hkc:k=0∨k=1∨k=2∨k=3∨k=4∨k=5∨k=6∨k=7∨k=8∨k=9∨k=10:=by omega
  rcases hkc with rfl | rfl | rfl | rfl | rfl | rfl | rfl | rfl | rfl | rfl | rfl
  ·cases hc:isD c0
   ·go_wp2_with (go_at_call 193;refine (digit_f _ _ hc).mono ?_;rintro e w' ⟨rfl,rfl⟩)
    go_ret
    refine⟨ret_bool ?_,rfl⟩
    cases B
    ·rfl
    ·exact absurd (hfi.out.1 rfl).d0 (by rw [hc];decide)
   ·go_wp2_with (go_at_call 193;refine (digit_t _ _ hc).mono ?_;rintro e w' ⟨rfl,rfl⟩)
    go_round
    case rel=>exact ⟨1,by omega,by go_num,fun j hj=>by
     by_cases e:j=0
     ·subst e
      show (if (0:Nat)=4∨(0:Nat)=7 then c0==45 else isD c0)=true
      simp [hc]
     ·exact hall.out j (by omega)⟩
    case measure=>simp [RowKit.intOf]
  ·cases hc:isD c1
   ·go_wp2_with (go_at_call 193;refine (digit_f _ _ hc).mono ?_;rintro e w' ⟨rfl,rfl⟩)
    go_ret
    refine⟨ret_bool ?_,rfl⟩
    cases B
    ·rfl
    ·exact absurd (hfi.out.1 rfl).d1 (by rw [hc];decide)
   ·go_wp2_with (go_at_call 193;refine (digit_t _ _ hc).mono ?_;rintro e w' ⟨rfl,rfl⟩)
    go_round
    case rel=>exact ⟨2,by omega,by go_num,fun j hj=>by
     by_cases e:j=1
     ·subst e
      show (if (1:Nat)=4∨(1:Nat)=7 then c1==45 else isD c1)=true
      simp [hc]
     ·exact hall.out j (by omega)⟩
    case measure=>simp [RowKit.intOf]
  ·cases hc:isD c2
   ·go_wp2_with (go_at_call 193;refine (digit_f _ _ hc).mono ?_;rintro e w' ⟨rfl,rfl⟩)
    go_ret
    refine⟨ret_bool ?_,rfl⟩
    cases B
    ·rfl
    ·exact absurd (hfi.out.1 rfl).d2 (by rw [hc];decide)
   ·go_wp2_with (go_at_call 193;refine (digit_t _ _ hc).mono ?_;rintro e w' ⟨rfl,rfl⟩)
    go_round
    case rel=>exact ⟨3,by omega,by go_num,fun j hj=>by
     by_cases e:j=2
     ·subst e
      show (if (2:Nat)=4∨(2:Nat)=7 then c2==45 else isD c2)=true
      simp [hc]
     ·exact hall.out j (by omega)⟩
    case measure=>simp [RowKit.intOf]
  ·cases hc:isD c3
   ·go_wp2_with (go_at_call 193;refine (digit_f _ _ hc).mono ?_;rintro e w' ⟨rfl,rfl⟩)
    go_ret
    refine⟨ret_bool ?_,rfl⟩
    cases B
    ·rfl
    ·exact absurd (hfi.out.1 rfl).d3 (by rw [hc];decide)
   ·go_wp2_with (go_at_call 193;refine (digit_t _ _ hc).mono ?_;rintro e w' ⟨rfl,rfl⟩)
    go_round
    case rel=>exact ⟨4,by omega,by go_num,fun j hj=>by
     by_cases e:j=3
     ·subst e
      show (if (3:Nat)=4∨(3:Nat)=7 then c3==45 else isD c3)=true
      simp [hc]
     ·exact hall.out j (by omega)⟩
    case measure=>simp [RowKit.intOf]
  ·by_cases hc:(c4.toNat:Int)=45
   ·go_wp2
    go_round
    case rel=>exact ⟨5,by omega,by go_num,fun j hj=>by
     by_cases e:j=4
     ·subst e
      show (if (4:Nat)=4∨(4:Nat)=7 then c4==45 else isD c4)=true
      have:c4=45:=by apply UInt8.toNat_inj.mp;exact Int.ofNat_inj.mp hc
      simp [this]
     ·exact hall.out j (by omega)⟩
    case measure=>simp [RowKit.intOf]
   ·go_wp2
    go_ret
    refine⟨ret_bool ?_,rfl⟩
    cases B
    ·rfl
    ·exact absurd (by rw [(hfi.out.1 rfl).h4];rfl) hc
  ·cases hc:isD c5
   ·go_wp2_with (go_at_call 193;refine (digit_f _ _ hc).mono ?_;rintro e w' ⟨rfl,rfl⟩)
    go_ret
    refine⟨ret_bool ?_,rfl⟩
    cases B
    ·rfl
    ·exact absurd (hfi.out.1 rfl).d5 (by rw [hc];decide)
   ·go_wp2_with (go_at_call 193;refine (digit_t _ _ hc).mono ?_;rintro e w' ⟨rfl,rfl⟩)
    go_round
    case rel=>exact ⟨6,by omega,by go_num,fun j hj=>by
     by_cases e:j=5
     ·subst e
      show (if (5:Nat)=4∨(5:Nat)=7 then c5==45 else isD c5)=true
      simp [hc]
     ·exact hall.out j (by omega)⟩
    case measure=>simp [RowKit.intOf]
  ·cases hc:isD c6
   ·go_wp2_with (go_at_call 193;refine (digit_f _ _ hc).mono ?_;rintro e w' ⟨rfl,rfl⟩)
    go_ret
    refine⟨ret_bool ?_,rfl⟩
    cases B
    ·rfl
    ·exact absurd (hfi.out.1 rfl).d6 (by rw [hc];decide)
   ·go_wp2_with (go_at_call 193;refine (digit_t _ _ hc).mono ?_;rintro e w' ⟨rfl,rfl⟩)
    go_round
    case rel=>exact ⟨7,by omega,by go_num,fun j hj=>by
     by_cases e:j=6
     ·subst e
      show (if (6:Nat)=4∨(6:Nat)=7 then c6==45 else isD c6)=true
      simp [hc]
     ·exact hall.out j (by omega)⟩
    case measure=>simp [RowKit.intOf]
  ·by_cases hc:(c7.toNat:Int)=45
   ·go_wp2
    go_round
    case rel=>exact ⟨8,by omega,by go_num,fun j hj=>by
     by_cases e:j=7
     ·subst e
      show (if (7:Nat)=4∨(7:Nat)=7 then c7==45 else isD c7)=true
      have:c7=45:=by apply UInt8.toNat_inj.mp;exact Int.ofNat_inj.mp hc
      simp [this]
     ·exact hall.out j (by omega)⟩
    case measure=>simp [RowKit.intOf]
   ·go_wp2
    go_ret
    refine⟨ret_bool ?_,rfl⟩
    cases B
    ·rfl
    ·exact absurd (by rw [(hfi.out.1 rfl).h7];rfl) hc
  ·cases hc:isD c8
   ·go_wp2_with (go_at_call 193;refine (digit_f _ _ hc).mono ?_;rintro e w' ⟨rfl,rfl⟩)
    go_ret
    refine⟨ret_bool ?_,rfl⟩
    cases B
    ·rfl
    ·exact absurd (hfi.out.1 rfl).d8 (by rw [hc];decide)
   ·go_wp2_with (go_at_call 193;refine (digit_t _ _ hc).mono ?_;rintro e w' ⟨rfl,rfl⟩)
    go_round
    case rel=>exact ⟨9,by omega,by go_num,fun j hj=>by
     by_cases e:j=8
     ·subst e
      show (if (8:Nat)=4∨(8:Nat)=7 then c8==45 else isD c8)=true
      simp [hc]
     ·exact hall.out j (by omega)⟩
    case measure=>simp [RowKit.intOf]
  ·cases hc:isD c9
   ·go_wp2_with (go_at_call 193;refine (digit_f _ _ hc).mono ?_;rintro e w' ⟨rfl,rfl⟩)
    go_ret
    refine⟨ret_bool ?_,rfl⟩
    cases B
    ·rfl
    ·exact absurd (hfi.out.1 rfl).d9 (by rw [hc];decide)
   ·go_wp2_with (go_at_call 193;refine (digit_t _ _ hc).mono ?_;rintro e w' ⟨rfl,rfl⟩)
    go_round
    case rel=>exact ⟨10,by omega,by go_num,fun j hj=>by
     by_cases e:j=9
     ·subst e
      show (if (9:Nat)=4∨(9:Nat)=7 then c9==45 else isD c9)=true
      simp [hc]
     ·exact hall.out j (by omega)⟩
    case measure=>simp [RowKit.intOf]
  ·go_wp2
   go_ret
   refine⟨ret_bool ?_,rfl⟩
   have h:=hall.out
   refine Eq.symm (hfi.out.2 ⟨?_,?_,?_,?_,?_,?_,?_,?_,?_,?_⟩)
   ·have:=h 0 (by omega);simpa [okAt] using this
   ·have:=h 1 (by omega);simpa [okAt] using this
   ·have:=h 2 (by omega);simpa [okAt] using this
   ·have:=h 3 (by omega);simpa [okAt] using this
   ·have:=h 4 (by omega);simpa [okAt] using this
   ·have:=h 5 (by omega);simpa [okAt] using this
   ·have:=h 6 (by omega);simpa [okAt] using this
   ·have:=h 7 (by omega);simpa [okAt] using this
   ·have:=h 8 (by omega);simpa [okAt] using this
   ·have:=h 9 (by omega);simpa [okAt] using this
theorem ret_text {a b:List UInt8}(h:a=b)(k:Int):Ending.returned (.tuple #[.string ⟨a.toArray⟩,.int .i64 k])=.returned (.tuple #[.string ⟨b.toArray⟩,.int .i64 k]):=by rw [h]
theorem Take_short (l:List UInt8)(w:World)(h:l.length≠10)(hl:l.length≤1000000) :
  Calls Tryz.prog 116 #[.string ⟨l.toArray⟩] w fun e w'=>e=.returned (.tuple #[.int .i64 0,.int .i64 4])∧Ext w w':=by
 replace h:=hid h
 go_enter Tryz.func116,Tryz.ntmps116
 go_wp2_with (go_at_call 163;refine (formed_no _ _ h.out hl).mono ?_;rintro e w' ⟨rfl,rfl⟩)
 go_ret2
 exact⟨rfl,Ext.refl _⟩
theorem Take_no (c0 c1 c2 c3 c4 c5 c6 c7 c8 c9:UInt8)(w:World)(h:formL [c0,c1,c2,c3,c4,c5,c6,c7,c8,c9]=false) :
  Calls Tryz.prog 116 #[.string ⟨#[c0,c1,c2,c3,c4,c5,c6,c7,c8,c9]⟩] w fun e w'=>e=.returned (.tuple #[.int .i64 0,.int .i64 4])∧Ext w w':=by
 have hf:=fun w=>formed_c c0 c1 c2 c3 c4 c5 c6 c7 c8 c9 w
 rw [h] at hf
 replace hf:=hid hf
 clear h
 go_enter Tryz.func116,Tryz.ntmps116
 go_wp2_with (go_at_call 163;refine (hf.out _).mono ?_;rintro e w' ⟨rfl,rfl⟩)
 go_ret2
 exact⟨rfl,Ext.refl _⟩
theorem Take_ok (c0 c1 c2 c3 c4 c5 c6 c7 c8 c9:UInt8)(w:World)(h:formL [c0,c1,c2,c3,c4,c5,c6,c7,c8,c9]=true)(he:Hid (Env w)) :
  Calls Tryz.prog 116 #[.string ⟨#[c0,c1,c2,c3,c4,c5,c6,c7,c8,c9]⟩] w fun e w'=>e=.returned (.tuple #[.int .i64 (numA (pY [c0,c1,c2,c3,c4,c5,c6,c7,c8,c9]) (pM [c0,c1,c2,c3,c4,c5,c6,c7,c8,c9]) (pD [c0,c1,c2,c3,c4,c5,c6,c7,c8,c9])),.int .i64 (numE (pY [c0,c1,c2,c3,c4,c5,c6,c7,c8,c9]) (pM [c0,c1,c2,c3,c4,c5,c6,c7,c8,c9]) (pD [c0,c1,c2,c3,c4,c5,c6,c7,c8,c9]))])∧Ext w w':=by
 have hf:=fun w=>formed_c c0 c1 c2 c3 c4 c5 c6 c7 c8 c9 w
 rw [h] at hf
 replace hf:=hid hf
 have f:=(form_iff c0 c1 c2 c3 c4 c5 c6 c7 c8 c9).1 h
 have n1:Hid (∀ w:World,Calls Tryz.prog 165 #[.string ⟨#[c0,c1,c2,c3]⟩] w fun e w'=>e=.returned (.int .i64 (pY [c0,c1,c2,c3,c4,c5,c6,c7,c8,c9]))∧Ext w w'):=fun w=>number_c [c0,c1,c2,c3] w (by simp) (by simp [f.d0,f.d1,f.d2,f.d3]) (by simp)
 have n2:Hid (∀ w:World,Calls Tryz.prog 165 #[.string ⟨#[c5,c6]⟩] w fun e w'=>e=.returned (.int .i64 (pM [c0,c1,c2,c3,c4,c5,c6,c7,c8,c9]))∧Ext w w'):=fun w=>number_c [c5,c6] w (by simp) (by simp [f.d5,f.d6]) (by simp)
 have n3:Hid (∀ w:World,Calls Tryz.prog 165 #[.string ⟨#[c8,c9]⟩] w fun e w'=>e=.returned (.int .i64 (pD [c0,c1,c2,c3,c4,c5,c6,c7,c8,c9]))∧Ext w w'):=fun w=>number_c [c8,c9] w (by simp) (by simp [f.d8,f.d9]) (by simp)
 have e1:(⟨#[c0,c1,c2,c3,c4,c5,c6,c7,c8,c9]⟩:ByteArray).extract 0 4=⟨#[c0,c1,c2,c3]⟩:=rfl
 have e2:(⟨#[c0,c1,c2,c3,c4,c5,c6,c7,c8,c9]⟩:ByteArray).extract 5 7=⟨#[c5,c6]⟩:=rfl
 have e3:(⟨#[c0,c1,c2,c3,c4,c5,c6,c7,c8,c9]⟩:ByteArray).extract 8 10=⟨#[c8,c9]⟩:=rfl
 have hsz:(⟨#[c0,c1,c2,c3,c4,c5,c6,c7,c8,c9]⟩:ByteArray).size=10:=rfl
 have hm:Hid (I64 (pM [c0,c1,c2,c3,c4,c5,c6,c7,c8,c9])):=by
  have:=valL_lt [c5,c6] (by simp [f.d5,f.d6])
  show I64 (pM [c0,c1,c2,c3,c4,c5,c6,c7,c8,c9])
  have e:pM [c0,c1,c2,c3,c4,c5,c6,c7,c8,c9]=(valL [c5,c6]:Nat):=rfl
  unfold I64;rw [e];simp at this;omega
 generalize pY [c0,c1,c2,c3,c4,c5,c6,c7,c8,c9]=y at *
 generalize pM [c0,c1,c2,c3,c4,c5,c6,c7,c8,c9]=m at *
 generalize pD [c0,c1,c2,c3,c4,c5,c6,c7,c8,c9]=d at *
 have hN:Hid (∀ w:World,Hid (Env w)→Calls Tryz.prog 164 #[.agg #[.int .i64 y,.int .i64 m,.int .i64 d]] w fun e w'=>e=.returned (.tuple #[.int .i64 (numA y m d),.int .i64 (numE y m d)])∧Ext w w'):=fun w he=>Number_c y m d w hm.out he
 generalize numA y m d=na at *
 generalize numE y m d=ne at *
 clear f h hm
 go_enter Tryz.func116,Tryz.ntmps116
 go_wp2_with fail
 refine (hf.out _).mono ?_
 rintro e w1 ⟨rfl,rfl⟩
 go_wp2
 have hE:Hid (∀ s:Late w1,Hid (Env s.to)):=fun s=>he.out.ext s.ext
 have hNe1:Nonempty (Late w1):=⟨⟨_,Ext.refl _⟩⟩
 refine rl ?_
 repeat (go_big_quiet_step ((first
  | (go_at_call_of 165 c0;exact late_of (n1.out _))
  | (go_at_call_of 165 c5;exact late_of (n2.out _))
  | (go_at_call_of 165 c8;exact late_of (n3.out _))
  | (go_at_call 164;exact late_of (hN.out _ (hE.out _))))))
 refine wpQuiet_nil ?_
 intro W1 hw'
 have hx1:=late_ext hw'
 clear hw'
 go_wp2
 go_ret2
 exact⟨rfl,hx1⟩
theorem Take_c (l:List UInt8)(w:World)(hl:l.length≤1000000)(he:Hid (Env w)) :
  Calls Tryz.prog 116 #[.string ⟨l.toArray⟩] w fun e w'=>e=.returned (.tuple #[.int .i64 (takA l),.int .i64 (takE l)])∧Ext w w':=by
 by_cases h:l.length=10
 ·obtain ⟨c0,c1,c2,c3,c4,c5,c6,c7,c8,c9,rfl⟩:=ten h
  cases hf:formL [c0,c1,c2,c3,c4,c5,c6,c7,c8,c9]
  ·rw [(tak_not _ hf).1,(tak_not _ hf).2];exact Take_no c0 c1 c2 c3 c4 c5 c6 c7 c8 c9 w hf
  ·rw [(tak_form _ hf).1,(tak_form _ hf).2];exact Take_ok c0 c1 c2 c3 c4 c5 c6 c7 c8 c9 w hf he
 ·rw [(tak_not _ (form_not l h)).1,(tak_not _ (form_not l h)).2];exact Take_short l w h hl
theorem _root_.Go.Proofs.YtcijdkbopiaicaaGreatDoor.Ext.froz_of {w w':World}{b o:Nat}{v:Value}(hx:Ext w w')(h:w.cell? ⟨b,o,none⟩=some v)(k:w.frozen? ⟨b,o,none⟩=false):w'.frozen? ⟨b,o,none⟩=false:=by
 rw [hx.froz b o (lt_of_cell h)];exact k
theorem fix_cons (j:Nat):∀ v,fix (j+1) v=dgt (v / 10 ^ j)::fix j v:=by
 induction j with
 | zero=>intro v;simp [fix]
 | succ j ih =>
  intro v
  rw [fix,ih,fix,Nat.pow_succ,Nat.mul_comm (10 ^ j) 10,←Nat.div_div_eq_div_mul]
  rfl
structure Ends (v least j:Nat):Prop where
 le:least≤j
 z:v / 10 ^ j=0
 nz:j=least∨v / 10 ^ (j-1)≠0
theorem ends_fix (v k j:Nat)(hk:v<10 ^ k)(h:Ends v k j):j=k:=by
 rcases h.nz with e | e
 ·exact e
 ·have:=h.le
  by_cases hj:j=k
  ·exact hj
  ·exfalso
   apply e
   apply Nat.div_eq_of_lt
   exact Nat.lt_of_lt_of_le hk (Nat.pow_le_pow_right (by omega) (by omega))
theorem one_byte (W:World)(b:Nat)(c:UInt8)(h:W.cell? ⟨b,0,none⟩=some (.int .u8 (c.toNat:Int))) :
  (convert 36 9 (.slice (some ⟨b,0,none⟩) 1 1)).run Tryz.prog W=.ok (.string ⟨#[c]⟩) W :=
 run_convert_bytes_back (P:=Tryz.prog) W 36 9 5 ⟨b,0,none⟩ 1 [c] Tryz.underlying36 Tryz.underlying5 Tryz.underlying9 (fun j hj=>by
  obtain rfl:j=0:=by simpa using hj
  exact h)
theorem rDigits_c (v least:Nat)(w:World)(hv:v<1000000)(hl:least≤20) :
  Calls Tryz.prog 40 #[.int .i64 (v:Int),.int .i64 (least:Int)] w fun e w'=>(∃ j,Ends v least j∧e=.returned (.string ⟨(fix j v).toArray⟩))∧Ext w w':=by
 go_enter Tryz.func40,Tryz.ntmps40
 go_wp2
 go_loopw [0,5] (fun vv s wr=>∃ j:Nat,j≤20∧vv=.int .i64 ((v / 10 ^ j:Nat):Int)∧s=.string ⟨(fix j v).toArray⟩∧(j≤least∨v / 10 ^ (j-1)≠0)∧Hid (Ext w wr)) (fun vv s _=>(RowKit.intOf vv).toNat+(20-strSize s))
 case atStart=>exact ⟨0,by omega,by simp,rfl,Or.inl (Nat.zero_le _),Ext.refl _⟩
 case round =>
  obtain⟨j,hj,rfl,rfl,hor,hx⟩:=hrel
  have hvj:v / 10 ^ j<1000000:=Nat.lt_of_le_of_lt (Nat.div_le_self _ _) hv
  have hj19:0<v / 10 ^ j→j≤19:=fun h0=>by
   rcases Nat.lt_or_ge j 20 with k | k
   ·omega
   ·have:v / 10 ^ j=0:=Nat.div_eq_of_lt (Nat.lt_of_lt_of_le hv (Nat.le_trans (by decide) (Nat.pow_le_pow_right (n:=10) (by omega) k)))
    omega
  generalize hq:v / 10 ^ j=q at *
  by_cases hz:0<q
  ·have hj1:=hj19 hz
   clear hj19
   have hq10:v / 10 ^ (j+1)=q / 10:=by rw [Nat.pow_succ,←Nat.div_div_eq_div_mul,hq]
   obtain⟨c,hc⟩:∃ c:UInt8,c=dgt q:=⟨_,rfl⟩
   have hcb:=fun (W:World) (b:Nat) (h:W.cell? ⟨b,0,none⟩=some (.int .u8 (c.toNat:Int)))=>one_byte W b c h
   have hfc:fix (j+1) v=c::fix j v:=by rw [fix_cons,hq,hc]
   have hfl:=fix_length j v
   have hbig:¬ 9223372036854775807<1+j:=by omega
   replace hfc:=hid hfc
   replace hq10:=hid hq10
   replace hq:=hid hq
   have hqI:(0:Int)<(q:Int):=by omega
   have e2:IntKind.u8.wrap (48+(q:Int) % 10)=(c.toNat:Int):=by rw [hc,dgt_toNat,IntKind.wrap_u8];omega
   replace hc:=hid hc
   go_wp2
   go_roundw
   case rel=>exact ⟨j+1,by omega,by rw [hq10.out];go_num,by rw [hfc.out],Or.inr (by rw [Nat.add_sub_cancel,hq.out];omega),(hx.out.alloc _ _)⟩
   case measure=>simp [RowKit.intOf,strSize_string,Lib.size_mk,hfl];omega
  ·have hq0:q=0:=by omega
   subst hq0
   clear hj19 hz
   by_cases hle:j<least
   ·have hleI:(j:Int)<(least:Int):=by omega
    have hq10:v / 10 ^ (j+1)=0:=by rw [Nat.pow_succ,←Nat.div_div_eq_div_mul,hq]
    obtain⟨c,hc⟩:∃ c:UInt8,c=dgt 0:=⟨_,rfl⟩
    have hcb:=fun (W:World) (b:Nat) (h:W.cell? ⟨b,0,none⟩=some (.int .u8 (c.toNat:Int)))=>one_byte W b c h
    have hfc:fix (j+1) v=c::fix j v:=by rw [fix_cons,hq,hc]
    have hfl:=fix_length j v
    have hbig:¬ 9223372036854775807<1+j:=by omega
    replace hfc:=hid hfc
    replace hq10:=hid hq10
    replace hq:=hid hq
    have e2:IntKind.u8.wrap 48=(c.toNat:Int):=by rw [hc];rfl
    replace hc:=hid hc
    go_wp2
    go_roundw
    case rel=>exact ⟨j+1,by omega,by rw [hq10.out];go_num,by rw [hfc.out],Or.inl (by omega),(hx.out.alloc _ _)⟩
    case measure=>simp [RowKit.intOf,strSize_string,Lib.size_mk,hfl];omega
   ·have hleI:¬ (j:Int)<(least:Int):=by omega
    have hfl:=fix_length j v
    go_wp2
    go_ret
    refine⟨⟨j,⟨by omega,hq,?_⟩,rfl⟩,hx.out⟩
    rcases hor with k | k
    ·left;omega
    ·right;exact k
theorem rDigits_fix (v k:Nat)(w:World)(hk:k≤4)(hv:v<10 ^ k) :
  Calls Tryz.prog 40 #[.int .i64 (v:Int),.int .i64 (k:Int)] w fun e w'=>e=.returned (.string ⟨(fix k v).toArray⟩)∧Ext w w':=by
 have hv2:v<1000000:=Nat.lt_of_lt_of_le hv (Nat.le_trans (Nat.pow_le_pow_right (n:=10) (by omega) hk) (by decide))
 refine (rDigits_c v k w hv2 (by omega)).mono ?_
 rintro e w' ⟨⟨j,hj,rfl⟩,hx⟩
 exact⟨by rw [ends_fix v k j hv hj],hx⟩
theorem rText_ok (n:Int)(w:World)(h1:-25567≤n)(h2:n≤84370)(he:Hid (Env w)) :
  Calls Tryz.prog 15 #[.int .i64 n] w fun e w'=>(∃ y m d:Int,e=.returned (.tuple #[.string ⟨(textL y m d).toArray⟩,.int .i64 0])∧Vld y m d∧num y m d=n)∧Ext w w':=by
 go_enter Tryz.func15,Tryz.ntmps15
 go_wp2_with fail
 refine (rDate_ok _ _ h1 h2).mono ?_
 rintro e w1 ⟨⟨y,m,d,rfl,hv,hn⟩,hx⟩
 replace he:Hid (Env w1):=he.out.ext hx
 replace hx:=hid hx
 replace hn:=hid hn
 obtain⟨Y,rfl⟩:∃ Y:Nat,y=Y:=⟨y.toNat,by have:=hv.y1;omega⟩
 obtain⟨M,rfl⟩:∃ M:Nat,m=M:=⟨m.toNat,by have:=hv.m1;omega⟩
 obtain⟨N,rfl⟩:∃ N:Nat,d=N:=⟨d.toNat,by have:=hv.d1;omega⟩
 have y1:=hv.y1;have y2:=hv.y2;have m2:=hv.m2;have d2:=hv.d31
 replace hv:=hid hv
 go_wp2
 obtain⟨W0,b,hW0,hb,hx0,k0,k1,k2⟩:=box3 w1 (.int .i64 (Y:Int)) (.int .i64 (M:Int)) (.int .i64 (N:Int)) 83
 rw [hW0,hb]
 clear hW0 hb
 replace he:Hid (Env W0):=he.out.ext hx0
 replace hx:Hid (Ext w W0):=hx.out.trans hx0
 clear hx0
 have j0:=Late.cell k0;have j1:=Late.cell k1;have j2:=Late.cell k2
 have hE:Hid (∀ s:Late W0,Hid (Env s.to)):=fun s=>he.out.ext s.ext
 have hI:Hid (∀ w:World,Calls Tryz.prog 40 #[.int .i64 (Y:Int),.int .i64 4] w fun e w'=>e=.returned (.string ⟨(fix 4 Y).toArray⟩)∧Ext w w'):=fun w=>rDigits_fix Y 4 w (by omega) (by omega)
 have hM:Hid (∀ w:World,Calls Tryz.prog 40 #[.int .i64 (M:Int),.int .i64 2] w fun e w'=>e=.returned (.string ⟨(fix 2 M).toArray⟩)∧Ext w w'):=fun w=>rDigits_fix M 2 w (by omega) (by omega)
 have hN:Hid (∀ w:World,Calls Tryz.prog 40 #[.int .i64 (N:Int),.int .i64 2] w fun e w'=>e=.returned (.string ⟨(fix 2 N).toArray⟩)∧Ext w w'):=fun w=>rDigits_fix N 2 w (by omega) (by omega)
 have l1:=fix_length 4 Y;have l2:=fix_length 2 M;have l3:=fix_length 2 N
 have ht:Hid (textL (Y:Int) (M:Int) (N:Int)=fix 4 Y++45::(fix 2 M++45::fix 2 N)):=rfl
 generalize fix 4 Y=a at *
 generalize fix 2 M=p at *
 generalize fix 2 N=q at *
 have hz:∀ s:Late W0,¬ 9223372036854775807<4+1:=fun _=>by omega
 clear hz
 have hNe1:Nonempty (Late W0):=⟨⟨_,Ext.refl _⟩⟩
 refine rl ?_
 repeat (go_big_quiet_step ((first
  | (go_at_call_of 40 (Y:Int);exact late_of (hI.out _))
  | (go_at_call_of 40 (M:Int);exact late_of (hM.out _))
  | (go_at_call_of 40 (N:Int);exact late_of (hN.out _)))))
 refine wpQuiet_nil ?_
 intro W1 hw'
 have hx1:=late_ext hw'
 clear hw'
 go_wp2
 go_ret2
 exact⟨⟨Y,M,N,by exact ret_text (by rw [ht.out]) 0,hv.out,hn.out⟩,hx.out.trans hx1⟩
def dv (c:UInt8):Int:=(c.toNat:Int)-48
theorem dv_bd (c:UInt8):-48≤dv c∧dv c≤207:=by unfold dv;have:=c.toNat_lt;omega
theorem dv_wrap (c:UInt8)(h:isD c=true):IntKind.u8.wrap ((c.toNat:Int)-48)=dv c:=by
 obtain⟨h1,h2⟩:=isD_range h
 rw [IntKind.wrap_u8];unfold dv;omega
def vY (x0 x1 x2 x3:Int):Nat→Int
 | 0=>0
 | 1=>x0
 | 2=>10 * x0+x1
 | 3=>10 * (10 * x0+x1)+x2
 | _=>10 * (10 * (10 * x0+x1)+x2)+x3
def vM (x5 x6:Int):Nat→Int
 | 6=>x5
 | 7=>10 * x5+x6
 | 8=>10 * x5+x6
 | 9=>10 * x5+x6
 | 10=>10 * x5+x6
 | _=>0
def vD (x8 x9:Int):Nat→Int
 | 9=>x8
 | 10=>10 * x8+x9
 | _=>0
structure Tri (w wr:World)(b:Nat)(p q r:Int):Prop where
 ext:Ext w wr
 lo:w.heap.size≤b
 b0:wr.cell? ⟨b,0,none⟩=some (.int .i64 p)
 b1:wr.cell? ⟨b,1,none⟩=some (.int .i64 q)
 b2:wr.cell? ⟨b,2,none⟩=some (.int .i64 r)
 g0:wr.frozen? ⟨b,0,none⟩=false
 g1:wr.frozen? ⟨b,1,none⟩=false
 g2:wr.frozen? ⟨b,2,none⟩=false
theorem Tri.start (w:World)(t:TypeId):∃ W b,w.alloc (.cells #[.int .i64 0,.int .i64 0,.int .i64 0] t)=W∧w.heap.size=b∧Tri w W b 0 0 0 :=
 ⟨_,_,rfl,rfl,(Ext.refl w).alloc _ _,Nat.le_refl _,by simp [go_sem],by simp [go_sem],by simp [go_sem],by simp [go_sem],by simp [go_sem],by simp [go_sem]⟩
theorem Tri.drew {w wr:World}{b:Nat}{p q r:Int}(h:Tri w wr b p q r)(n:Nat):Tri w (wr.drewN n) b p q r :=
 ⟨h.ext.drewN n,h.lo,h.b0,h.b1,h.b2,h.g0,h.g1,h.g2⟩
theorem Tri.set0 {w wr:World}{b:Nat}{p q r:Int}(h:Tri w wr b p q r)(z:Int):Tri w (wr.setCell ⟨b,0,none⟩ (.int .i64 z)) b z q r :=
 ⟨h.ext.setCell (show w.heap.size≤b from h.lo) _,h.lo,same h.b0,by rw [other _ (by omega)];exact h.b1,by rw [other _ (by omega)];exact h.b2,by simpa using h.g0,by simpa using h.g1,by simpa using h.g2⟩
theorem Tri.set1 {w wr:World}{b:Nat}{p q r:Int}(h:Tri w wr b p q r)(z:Int):Tri w (wr.setCell ⟨b,1,none⟩ (.int .i64 z)) b p z r :=
 ⟨h.ext.setCell (show w.heap.size≤b from h.lo) _,h.lo,by rw [other _ (by omega)];exact h.b0,same h.b1,by rw [other _ (by omega)];exact h.b2,by simpa using h.g0,by simpa using h.g1,by simpa using h.g2⟩
theorem Tri.set2 {w wr:World}{b:Nat}{p q r:Int}(h:Tri w wr b p q r)(z:Int):Tri w (wr.setCell ⟨b,2,none⟩ (.int .i64 z)) b p q z :=
 ⟨h.ext.setCell (show w.heap.size≤b from h.lo) _,h.lo,by rw [other _ (by omega)];exact h.b0,by rw [other _ (by omega)];exact h.b1,same h.b2,by simpa using h.g0,by simpa using h.g1,by simpa using h.g2⟩
theorem parts_dv (c0 c1 c2 c3 c4 c5 c6 c7 c8 c9:UInt8)(f:Form c0 c1 c2 c3 c4 c5 c6 c7 c8 c9):vY (dv c0) (dv c1) (dv c2) (dv c3) 10=pY [c0,c1,c2,c3,c4,c5,c6,c7,c8,c9]∧vM (dv c5) (dv c6) 10=pM [c0,c1,c2,c3,c4,c5,c6,c7,c8,c9]∧vD (dv c8) (dv c9) 10=pD [c0,c1,c2,c3,c4,c5,c6,c7,c8,c9]:=by
 have:=isD_range f.d0;have:=isD_range f.d1;have:=isD_range f.d2;have:=isD_range f.d3;have:=isD_range f.d5;have:=isD_range f.d6;have:=isD_range f.d8;have:=isD_range f.d9
 refine⟨?_,?_,?_⟩
 ·show 10 * (10 * (10 * dv c0+dv c1)+dv c2)+dv c3=((valL [c0,c1,c2,c3]:Nat):Int)
  simp only [valL,List.foldl,dv];omega
 ·show 10 * dv c5+dv c6=((valL [c5,c6]:Nat):Int)
  simp only [valL,List.foldl,dv];omega
 ·show 10 * dv c8+dv c9=((valL [c8,c9]:Nat):Int)
  simp only [valL,List.foldl,dv];omega
theorem rTake_short (l:List UInt8)(w:World)(h:l.length≠10)(hl:l.length≤1000000) :
  Calls Tryz.prog 141 #[.string ⟨l.toArray⟩] w fun e w'=>e=.returned (.tuple #[.int .i64 0,.int .i64 4])∧Ext w w':=by
 have k:¬ (l.length:Int)=10:=by omega
 go_enter Tryz.func141,Tryz.ntmps141
 go_wp2
 go_ret2
 exact⟨rfl,Ext.refl _⟩
theorem rTake_h4 (c0 c1 c2 c3 c4 c5 c6 c7 c8 c9:UInt8)(w:World)(h:¬ (c4.toNat:Int)=45) :
  Calls Tryz.prog 141 #[.string ⟨#[c0,c1,c2,c3,c4,c5,c6,c7,c8,c9]⟩] w fun e w'=>e=.returned (.tuple #[.int .i64 0,.int .i64 4])∧Ext w w':=by
 have i4:∀ h,(⟨#[c0,c1,c2,c3,c4,c5,c6,c7,c8,c9]⟩:ByteArray)[4]'h=c4:=fun _=>rfl
 go_enter Tryz.func141,Tryz.ntmps141
 go_wp2
 go_ret2
 exact⟨rfl,Ext.refl _⟩
theorem rTake_h7 (c0 c1 c2 c3 c4 c5 c6 c7 c8 c9:UInt8)(w:World)(h4:(c4.toNat:Int)=45)(h:¬ (c7.toNat:Int)=45) :
  Calls Tryz.prog 141 #[.string ⟨#[c0,c1,c2,c3,c4,c5,c6,c7,c8,c9]⟩] w fun e w'=>e=.returned (.tuple #[.int .i64 0,.int .i64 4])∧Ext w w':=by
 have i4:∀ h,(⟨#[c0,c1,c2,c3,c4,c5,c6,c7,c8,c9]⟩:ByteArray)[4]'h=c4:=fun _=>rfl
 have i7:∀ h,(⟨#[c0,c1,c2,c3,c4,c5,c6,c7,c8,c9]⟩:ByteArray)[7]'h=c7:=fun _=>rfl
 go_enter Tryz.func141,Tryz.ntmps141
 go_wp2
 go_ret2
 exact⟨rfl,Ext.refl _⟩
theorem rTake_ten (c0 c1 c2 c3 c4 c5 c6 c7 c8 c9:UInt8)(w:World)(h4:(c4.toNat:Int)=45)(h7:(c7.toNat:Int)=45)(he:Hid (Env w)) :
  Calls Tryz.prog 141 #[.string ⟨#[c0,c1,c2,c3,c4,c5,c6,c7,c8,c9]⟩] w fun e w'=>e=.returned (.tuple #[.int .i64 (takA [c0,c1,c2,c3,c4,c5,c6,c7,c8,c9]),.int .i64 (takE [c0,c1,c2,c3,c4,c5,c6,c7,c8,c9])])∧Ext w w':=by
 have hfi:=hid <| form_iff c0 c1 c2 c3 c4 c5 c6 c7 c8 c9
 have hp:=hid <| parts_dv c0 c1 c2 c3 c4 c5 c6 c7 c8 c9
 have k4:Hid (c4=45):=by show c4=45;apply UInt8.toNat_inj.mp;exact Int.ofNat_inj.mp h4
 have k7:Hid (c7=45):=by show c7=45;apply UInt8.toNat_inj.mp;exact Int.ofNat_inj.mp h7
 have hno:Hid (∀ i,i<10→okAt [c0,c1,c2,c3,c4,c5,c6,c7,c8,c9] i=false→takA [c0,c1,c2,c3,c4,c5,c6,c7,c8,c9]=0∧takE [c0,c1,c2,c3,c4,c5,c6,c7,c8,c9]=4):=fun i hi hk=>tak_not _ (by
  unfold formL
  have:(List.range 10).all (okAt [c0,c1,c2,c3,c4,c5,c6,c7,c8,c9])=false:=by
   rw [List.all_eq_false];exact ⟨i,by simpa using hi,by rw [hk];decide⟩
  rw [this];simp)
 obtain⟨x0,ex0⟩:∃ x,dv c0=x:=⟨_,rfl⟩
 obtain⟨l0,u0⟩:=ex0 ▸ dv_bd c0
 have wr0:Hid (isD c0=true→IntKind.u8.wrap ((c0.toNat:Int)-48)=x0):=fun h=>ex0 ▸ dv_wrap c0 h
 obtain⟨x1,ex1⟩:∃ x,dv c1=x:=⟨_,rfl⟩
 obtain⟨l1,u1⟩:=ex1 ▸ dv_bd c1
 have wr1:Hid (isD c1=true→IntKind.u8.wrap ((c1.toNat:Int)-48)=x1):=fun h=>ex1 ▸ dv_wrap c1 h
 obtain⟨x2,ex2⟩:∃ x,dv c2=x:=⟨_,rfl⟩
 obtain⟨l2,u2⟩:=ex2 ▸ dv_bd c2
 have wr2:Hid (isD c2=true→IntKind.u8.wrap ((c2.toNat:Int)-48)=x2):=fun h=>ex2 ▸ dv_wrap c2 h
 obtain⟨x3,ex3⟩:∃ x,dv c3=x:=⟨_,rfl⟩
 obtain⟨l3,u3⟩:=ex3 ▸ dv_bd c3
 have wr3:Hid (isD c3=true→IntKind.u8.wrap ((c3.toNat:Int)-48)=x3):=fun h=>ex3 ▸ dv_wrap c3 h
 obtain⟨x5,ex5⟩:∃ x,dv c5=x:=⟨_,rfl⟩
 obtain⟨l5,u5⟩:=ex5 ▸ dv_bd c5
 have wr5:Hid (isD c5=true→IntKind.u8.wrap ((c5.toNat:Int)-48)=x5):=fun h=>ex5 ▸ dv_wrap c5 h
 obtain⟨x6,ex6⟩:∃ x,dv c6=x:=⟨_,rfl⟩
 obtain⟨l6,u6⟩:=ex6 ▸ dv_bd c6
 have wr6:Hid (isD c6=true→IntKind.u8.wrap ((c6.toNat:Int)-48)=x6):=fun h=>ex6 ▸ dv_wrap c6 h
 obtain⟨x8,ex8⟩:∃ x,dv c8=x:=⟨_,rfl⟩
 obtain⟨l8,u8⟩:=ex8 ▸ dv_bd c8
 have wr8:Hid (isD c8=true→IntKind.u8.wrap ((c8.toNat:Int)-48)=x8):=fun h=>ex8 ▸ dv_wrap c8 h
 obtain⟨x9,ex9⟩:∃ x,dv c9=x:=⟨_,rfl⟩
 obtain⟨l9,u9⟩:=ex9 ▸ dv_bd c9
 have wr9:Hid (isD c9=true→IntKind.u8.wrap ((c9.toNat:Int)-48)=x9):=fun h=>ex9 ▸ dv_wrap c9 h
 replace hp:Hid (Form c0 c1 c2 c3 c4 c5 c6 c7 c8 c9→vY x0 x1 x2 x3 10=pY [c0,c1,c2,c3,c4,c5,c6,c7,c8,c9]∧vM x5 x6 10=pM [c0,c1,c2,c3,c4,c5,c6,c7,c8,c9]∧vD x8 x9 10=pD [c0,c1,c2,c3,c4,c5,c6,c7,c8,c9]):=fun f=>by
  have:=hp.out f
  rwa [ex0,ex1,ex2,ex3,ex5,ex6,ex8,ex9] at this
 clear ex0 ex1 ex2 ex3 ex5 ex6 ex8 ex9
 have hT:Hid (Form c0 c1 c2 c3 c4 c5 c6 c7 c8 c9→takA [c0,c1,c2,c3,c4,c5,c6,c7,c8,c9]=numA (vY x0 x1 x2 x3 10) (vM x5 x6 10) (vD x8 x9 10)∧takE [c0,c1,c2,c3,c4,c5,c6,c7,c8,c9]=numE (vY x0 x1 x2 x3 10) (vM x5 x6 10) (vD x8 x9 10)):=fun f=>by
  obtain⟨p,q,r⟩:=hp.out f
  rw [p,q,r]
  exact tak_form _ (hfi.out.2 f)
 generalize takA [c0,c1,c2,c3,c4,c5,c6,c7,c8,c9]=TA at *
 generalize takE [c0,c1,c2,c3,c4,c5,c6,c7,c8,c9]=TE at *
 have i0:∀ h,(⟨#[c0,c1,c2,c3,c4,c5,c6,c7,c8,c9]⟩:ByteArray)[0]'h=c0:=fun _=>rfl
 have i1:∀ h,(⟨#[c0,c1,c2,c3,c4,c5,c6,c7,c8,c9]⟩:ByteArray)[1]'h=c1:=fun _=>rfl
 have i2:∀ h,(⟨#[c0,c1,c2,c3,c4,c5,c6,c7,c8,c9]⟩:ByteArray)[2]'h=c2:=fun _=>rfl
 have i3:∀ h,(⟨#[c0,c1,c2,c3,c4,c5,c6,c7,c8,c9]⟩:ByteArray)[3]'h=c3:=fun _=>rfl
 have i4:∀ h,(⟨#[c0,c1,c2,c3,c4,c5,c6,c7,c8,c9]⟩:ByteArray)[4]'h=c4:=fun _=>rfl
 have i5:∀ h,(⟨#[c0,c1,c2,c3,c4,c5,c6,c7,c8,c9]⟩:ByteArray)[5]'h=c5:=fun _=>rfl
 have i6:∀ h,(⟨#[c0,c1,c2,c3,c4,c5,c6,c7,c8,c9]⟩:ByteArray)[6]'h=c6:=fun _=>rfl
 have i7:∀ h,(⟨#[c0,c1,c2,c3,c4,c5,c6,c7,c8,c9]⟩:ByteArray)[7]'h=c7:=fun _=>rfl
 have i8:∀ h,(⟨#[c0,c1,c2,c3,c4,c5,c6,c7,c8,c9]⟩:ByteArray)[8]'h=c8:=fun _=>rfl
 have i9:∀ h,(⟨#[c0,c1,c2,c3,c4,c5,c6,c7,c8,c9]⟩:ByteArray)[9]'h=c9:=fun _=>rfl
 go_enter Tryz.func141,Tryz.ntmps141
 go_wp2
 obtain⟨W0,b,hW0,hb,hd⟩:=Tri.start w 176
 rw [hW0,hb]
 clear hW0 hb
 replace hd:=hid hd
 go_loopw [5] (fun t wr=>∃ k:Nat,k≤10∧t=.int .i64 (k:Int)∧Hid (∀ j,j<k→okAt [c0,c1,c2,c3,c4,c5,c6,c7,c8,c9] j=true)∧Hid (Tri w wr b (vY x0 x1 x2 x3 k) (vM x5 x6 k) (vD x8 x9 k))) (fun t _=>(10-RowKit.intOf t).toNat)
 case atStart=>exact ⟨0,by omega,rfl,fun j hj=>absurd hj (Nat.not_lt_zero j),hd⟩
 case round =>
  clear hd
  obtain⟨k,hk,rfl,hall,hd⟩:=hrel
  have hkc:k=0∨k=1∨k=2∨k=3∨k=4∨k=5∨k=6∨k=7∨k=8∨k=9∨k=10:=by omega
  rcases hkc with rfl | rfl | rfl | rfl | rfl | rfl | rfl | rfl | rfl | rfl | rfl
  ·cases hc:isD c0
   ·have hr:=hno.out 0 (by omega) (by show (if (0:Nat)=4∨(0:Nat)=7 then c0==45 else isD c0)=false;simp [hc])
    obtain⟨rfl,rfl⟩:=hr
    by_cases k1:(c0.toNat:Int)<48
    ·go_wp2
     go_ret2
     exact⟨rfl,hd.out.ext⟩
    ·have k2:(57:Int)<(c0.toNat:Int):=by
      by_cases k2:(57:Int)<(c0.toNat:Int)
      ·exact k2
      ·have:isD c0=true:=by unfold isD;simp;omega
       rw [this] at hc;cases hc
     go_wp2
     go_ret2
     exact⟨rfl,hd.out.ext⟩
   ·have q0:wr.cell? ⟨b,0,none⟩=some (.int .i64 (0)):=hd.out.b0
    have q1:wr.cell? ⟨b,1,none⟩=some (.int .i64 (0)):=hd.out.b1
    have q2:wr.cell? ⟨b,2,none⟩=some (.int .i64 (0)):=hd.out.b2
    have g0:=hd.out.g0;have g1:=hd.out.g1;have g2:=hd.out.g2
    obtain⟨r1,r2⟩:=isD_range hc
    have k1:¬ (c0.toNat:Int)<48:=by omega
    have k2:¬ (57:Int)<(c0.toNat:Int):=by omega
    have k3:=wr0.out hc
    have k5:0≤x0:=by
     rw [←k3,IntKind.wrap_u8];omega
    clear r1 r2
    go_wp2
    go_region
    all_goals
     go_wp2
     go_roundw
     case rel=>exact ⟨1,by omega,by go_num,fun j hj=>by
      by_cases e:j=0
      ·subst e
       show (if (0:Nat)=4∨(0:Nat)=7 then c0==45 else isD c0)=true
       simp [hc]
      ·exact hall.out j (by omega),(hd.out.set0 (x0)).drew 1⟩
     case measure=>simp [RowKit.intOf]
  ·cases hc:isD c1
   ·have hr:=hno.out 1 (by omega) (by show (if (1:Nat)=4∨(1:Nat)=7 then c1==45 else isD c1)=false;simp [hc])
    obtain⟨rfl,rfl⟩:=hr
    by_cases k1:(c1.toNat:Int)<48
    ·go_wp2
     go_ret2
     exact⟨rfl,hd.out.ext⟩
    ·have k2:(57:Int)<(c1.toNat:Int):=by
      by_cases k2:(57:Int)<(c1.toNat:Int)
      ·exact k2
      ·have:isD c1=true:=by unfold isD;simp;omega
       rw [this] at hc;cases hc
     go_wp2
     go_ret2
     exact⟨rfl,hd.out.ext⟩
   ·have q0:wr.cell? ⟨b,0,none⟩=some (.int .i64 (x0)):=hd.out.b0
    have q1:wr.cell? ⟨b,1,none⟩=some (.int .i64 (0)):=hd.out.b1
    have q2:wr.cell? ⟨b,2,none⟩=some (.int .i64 (0)):=hd.out.b2
    have g0:=hd.out.g0;have g1:=hd.out.g1;have g2:=hd.out.g2
    obtain⟨r1,r2⟩:=isD_range hc
    have k1:¬ (c1.toNat:Int)<48:=by omega
    have k2:¬ (57:Int)<(c1.toNat:Int):=by omega
    have k3:=wr1.out hc
    have k5:0≤x1:=by
     rw [←k3,IntKind.wrap_u8];omega
    clear r1 r2
    go_wp2
    go_region
    all_goals
     go_wp2
     go_roundw
     case rel=>exact ⟨2,by omega,by go_num,fun j hj=>by
      by_cases e:j=1
      ·subst e
       show (if (1:Nat)=4∨(1:Nat)=7 then c1==45 else isD c1)=true
       simp [hc]
      ·exact hall.out j (by omega),(hd.out.set0 (10 * x0+x1)).drew 1⟩
     case measure=>simp [RowKit.intOf]
  ·cases hc:isD c2
   ·have hr:=hno.out 2 (by omega) (by show (if (2:Nat)=4∨(2:Nat)=7 then c2==45 else isD c2)=false;simp [hc])
    obtain⟨rfl,rfl⟩:=hr
    by_cases k1:(c2.toNat:Int)<48
    ·go_wp2
     go_ret2
     exact⟨rfl,hd.out.ext⟩
    ·have k2:(57:Int)<(c2.toNat:Int):=by
      by_cases k2:(57:Int)<(c2.toNat:Int)
      ·exact k2
      ·have:isD c2=true:=by unfold isD;simp;omega
       rw [this] at hc;cases hc
     go_wp2
     go_ret2
     exact⟨rfl,hd.out.ext⟩
   ·have q0:wr.cell? ⟨b,0,none⟩=some (.int .i64 (10 * x0+x1)):=hd.out.b0
    have q1:wr.cell? ⟨b,1,none⟩=some (.int .i64 (0)):=hd.out.b1
    have q2:wr.cell? ⟨b,2,none⟩=some (.int .i64 (0)):=hd.out.b2
    have g0:=hd.out.g0;have g1:=hd.out.g1;have g2:=hd.out.g2
    obtain⟨r1,r2⟩:=isD_range hc
    have k1:¬ (c2.toNat:Int)<48:=by omega
    have k2:¬ (57:Int)<(c2.toNat:Int):=by omega
    have k3:=wr2.out hc
    have k5:0≤x2:=by
     rw [←k3,IntKind.wrap_u8];omega
    clear r1 r2
    go_wp2
    go_region
    all_goals
     go_wp2
     go_roundw
     case rel=>exact ⟨3,by omega,by go_num,fun j hj=>by
      by_cases e:j=2
      ·subst e
       show (if (2:Nat)=4∨(2:Nat)=7 then c2==45 else isD c2)=true
       simp [hc]
      ·exact hall.out j (by omega),(hd.out.set0 (10 * (10 * x0+x1)+x2)).drew 1⟩
     case measure=>simp [RowKit.intOf]
  ·cases hc:isD c3
   ·have hr:=hno.out 3 (by omega) (by show (if (3:Nat)=4∨(3:Nat)=7 then c3==45 else isD c3)=false;simp [hc])
    obtain⟨rfl,rfl⟩:=hr
    by_cases k1:(c3.toNat:Int)<48
    ·go_wp2
     go_ret2
     exact⟨rfl,hd.out.ext⟩
    ·have k2:(57:Int)<(c3.toNat:Int):=by
      by_cases k2:(57:Int)<(c3.toNat:Int)
      ·exact k2
      ·have:isD c3=true:=by unfold isD;simp;omega
       rw [this] at hc;cases hc
     go_wp2
     go_ret2
     exact⟨rfl,hd.out.ext⟩
   ·have q0:wr.cell? ⟨b,0,none⟩=some (.int .i64 (10 * (10 * x0+x1)+x2)):=hd.out.b0
    have q1:wr.cell? ⟨b,1,none⟩=some (.int .i64 (0)):=hd.out.b1
    have q2:wr.cell? ⟨b,2,none⟩=some (.int .i64 (0)):=hd.out.b2
    have g0:=hd.out.g0;have g1:=hd.out.g1;have g2:=hd.out.g2
    obtain⟨r1,r2⟩:=isD_range hc
    have k1:¬ (c3.toNat:Int)<48:=by omega
    have k2:¬ (57:Int)<(c3.toNat:Int):=by omega
    have k3:=wr3.out hc
    have k5:0≤x3:=by
     rw [←k3,IntKind.wrap_u8];omega
    clear r1 r2
    go_wp2
    go_region
    all_goals
     go_wp2
     go_roundw
     case rel=>exact ⟨4,by omega,by go_num,fun j hj=>by
      by_cases e:j=3
      ·subst e
       show (if (3:Nat)=4∨(3:Nat)=7 then c3==45 else isD c3)=true
       simp [hc]
      ·exact hall.out j (by omega),(hd.out.set0 (10 * (10 * (10 * x0+x1)+x2)+x3)).drew 1⟩
     case measure=>simp [RowKit.intOf]
  ·go_wp2
   go_roundw
   case rel=>exact ⟨5,by omega,by go_num,fun j hj=>by
    by_cases e:j=4
    ·subst e
     show (if (4:Nat)=4∨(4:Nat)=7 then c4==45 else isD c4)=true
     simp [k4.out]
    ·exact hall.out j (by omega),hd⟩
   case measure=>simp [RowKit.intOf]
  ·cases hc:isD c5
   ·have hr:=hno.out 5 (by omega) (by show (if (5:Nat)=4∨(5:Nat)=7 then c5==45 else isD c5)=false;simp [hc])
    obtain⟨rfl,rfl⟩:=hr
    by_cases k1:(c5.toNat:Int)<48
    ·go_wp2
     go_ret2
     exact⟨rfl,hd.out.ext⟩
    ·have k2:(57:Int)<(c5.toNat:Int):=by
      by_cases k2:(57:Int)<(c5.toNat:Int)
      ·exact k2
      ·have:isD c5=true:=by unfold isD;simp;omega
       rw [this] at hc;cases hc
     go_wp2
     go_ret2
     exact⟨rfl,hd.out.ext⟩
   ·have q0:wr.cell? ⟨b,0,none⟩=some (.int .i64 (10 * (10 * (10 * x0+x1)+x2)+x3)):=hd.out.b0
    have q1:wr.cell? ⟨b,1,none⟩=some (.int .i64 (0)):=hd.out.b1
    have q2:wr.cell? ⟨b,2,none⟩=some (.int .i64 (0)):=hd.out.b2
    have g0:=hd.out.g0;have g1:=hd.out.g1;have g2:=hd.out.g2
    obtain⟨r1,r2⟩:=isD_range hc
    have k1:¬ (c5.toNat:Int)<48:=by omega
    have k2:¬ (57:Int)<(c5.toNat:Int):=by omega
    have k3:=wr5.out hc
    have k5:0≤x5:=by
     rw [←k3,IntKind.wrap_u8];omega
    clear r1 r2
    go_wp2
    go_region
    all_goals
     go_wp2
     go_roundw
     case rel=>exact ⟨6,by omega,by go_num,fun j hj=>by
      by_cases e:j=5
      ·subst e
       show (if (5:Nat)=4∨(5:Nat)=7 then c5==45 else isD c5)=true
       simp [hc]
      ·exact hall.out j (by omega),(hd.out.set1 (x5)).drew 1⟩
     case measure=>simp [RowKit.intOf]
  ·cases hc:isD c6
   ·have hr:=hno.out 6 (by omega) (by show (if (6:Nat)=4∨(6:Nat)=7 then c6==45 else isD c6)=false;simp [hc])
    obtain⟨rfl,rfl⟩:=hr
    by_cases k1:(c6.toNat:Int)<48
    ·go_wp2
     go_ret2
     exact⟨rfl,hd.out.ext⟩
    ·have k2:(57:Int)<(c6.toNat:Int):=by
      by_cases k2:(57:Int)<(c6.toNat:Int)
      ·exact k2
      ·have:isD c6=true:=by unfold isD;simp;omega
       rw [this] at hc;cases hc
     go_wp2
     go_ret2
     exact⟨rfl,hd.out.ext⟩
   ·have q0:wr.cell? ⟨b,0,none⟩=some (.int .i64 (10 * (10 * (10 * x0+x1)+x2)+x3)):=hd.out.b0
    have q1:wr.cell? ⟨b,1,none⟩=some (.int .i64 (x5)):=hd.out.b1
    have q2:wr.cell? ⟨b,2,none⟩=some (.int .i64 (0)):=hd.out.b2
    have g0:=hd.out.g0;have g1:=hd.out.g1;have g2:=hd.out.g2
    obtain⟨r1,r2⟩:=isD_range hc
    have k1:¬ (c6.toNat:Int)<48:=by omega
    have k2:¬ (57:Int)<(c6.toNat:Int):=by omega
    have k3:=wr6.out hc
    have k5:0≤x6:=by
     rw [←k3,IntKind.wrap_u8];omega
    clear r1 r2
    go_wp2
    go_region
    all_goals
     go_wp2
     go_roundw
     case rel=>exact ⟨7,by omega,by go_num,fun j hj=>by
      by_cases e:j=6
      ·subst e
       show (if (6:Nat)=4∨(6:Nat)=7 then c6==45 else isD c6)=true
       simp [hc]
      ·exact hall.out j (by omega),(hd.out.set1 (10 * x5+x6)).drew 1⟩
     case measure=>simp [RowKit.intOf]
  ·go_wp2
   go_roundw
   case rel=>exact ⟨8,by omega,by go_num,fun j hj=>by
    by_cases e:j=7
    ·subst e
     show (if (7:Nat)=4∨(7:Nat)=7 then c7==45 else isD c7)=true
     simp [k7.out]
    ·exact hall.out j (by omega),hd⟩
   case measure=>simp [RowKit.intOf]
  ·cases hc:isD c8
   ·have hr:=hno.out 8 (by omega) (by show (if (8:Nat)=4∨(8:Nat)=7 then c8==45 else isD c8)=false;simp [hc])
    obtain⟨rfl,rfl⟩:=hr
    by_cases k1:(c8.toNat:Int)<48
    ·go_wp2
     go_ret2
     exact⟨rfl,hd.out.ext⟩
    ·have k2:(57:Int)<(c8.toNat:Int):=by
      by_cases k2:(57:Int)<(c8.toNat:Int)
      ·exact k2
      ·have:isD c8=true:=by unfold isD;simp;omega
       rw [this] at hc;cases hc
     go_wp2
     go_ret2
     exact⟨rfl,hd.out.ext⟩
   ·have q0:wr.cell? ⟨b,0,none⟩=some (.int .i64 (10 * (10 * (10 * x0+x1)+x2)+x3)):=hd.out.b0
    have q1:wr.cell? ⟨b,1,none⟩=some (.int .i64 (10 * x5+x6)):=hd.out.b1
    have q2:wr.cell? ⟨b,2,none⟩=some (.int .i64 (0)):=hd.out.b2
    have g0:=hd.out.g0;have g1:=hd.out.g1;have g2:=hd.out.g2
    obtain⟨r1,r2⟩:=isD_range hc
    have k1:¬ (c8.toNat:Int)<48:=by omega
    have k2:¬ (57:Int)<(c8.toNat:Int):=by omega
    have k3:=wr8.out hc
    have k5:0≤x8:=by
     rw [←k3,IntKind.wrap_u8];omega
    clear r1 r2
    go_wp2
    go_region
    all_goals
     go_wp2
     go_roundw
     case rel=>exact ⟨9,by omega,by go_num,fun j hj=>by
      by_cases e:j=8
      ·subst e
       show (if (8:Nat)=4∨(8:Nat)=7 then c8==45 else isD c8)=true
       simp [hc]
      ·exact hall.out j (by omega),(hd.out.set2 (x8)).drew 1⟩
     case measure=>simp [RowKit.intOf]
  ·cases hc:isD c9
   ·have hr:=hno.out 9 (by omega) (by show (if (9:Nat)=4∨(9:Nat)=7 then c9==45 else isD c9)=false;simp [hc])
    obtain⟨rfl,rfl⟩:=hr
    by_cases k1:(c9.toNat:Int)<48
    ·go_wp2
     go_ret2
     exact⟨rfl,hd.out.ext⟩
    ·have k2:(57:Int)<(c9.toNat:Int):=by
      by_cases k2:(57:Int)<(c9.toNat:Int)
      ·exact k2
      ·have:isD c9=true:=by unfold isD;simp;omega
       rw [this] at hc;cases hc
     go_wp2
     go_ret2
     exact⟨rfl,hd.out.ext⟩
   ·have q0:wr.cell? ⟨b,0,none⟩=some (.int .i64 (10 * (10 * (10 * x0+x1)+x2)+x3)):=hd.out.b0
    have q1:wr.cell? ⟨b,1,none⟩=some (.int .i64 (10 * x5+x6)):=hd.out.b1
    have q2:wr.cell? ⟨b,2,none⟩=some (.int .i64 (x8)):=hd.out.b2
    have g0:=hd.out.g0;have g1:=hd.out.g1;have g2:=hd.out.g2
    obtain⟨r1,r2⟩:=isD_range hc
    have k1:¬ (c9.toNat:Int)<48:=by omega
    have k2:¬ (57:Int)<(c9.toNat:Int):=by omega
    have k3:=wr9.out hc
    have k5:0≤x9:=by
     rw [←k3,IntKind.wrap_u8];omega
    clear r1 r2
    go_wp2
    go_region
    all_goals
     go_wp2
     go_roundw
     case rel=>exact ⟨10,by omega,by go_num,fun j hj=>by
      by_cases e:j=9
      ·subst e
       show (if (9:Nat)=4∨(9:Nat)=7 then c9==45 else isD c9)=true
       simp [hc]
      ·exact hall.out j (by omega),(hd.out.set2 (10 * x8+x9)).drew 1⟩
     case measure=>simp [RowKit.intOf]
  ·have f:Form c0 c1 c2 c3 c4 c5 c6 c7 c8 c9:=by
    have h:=hall.out
    refine⟨?_,?_,?_,?_,k4.out,?_,?_,k7.out,?_,?_⟩
    ·have:=h 0 (by omega);simpa [okAt] using this
    ·have:=h 1 (by omega);simpa [okAt] using this
    ·have:=h 2 (by omega);simpa [okAt] using this
    ·have:=h 3 (by omega);simpa [okAt] using this
    ·have:=h 5 (by omega);simpa [okAt] using this
    ·have:=h 6 (by omega);simpa [okAt] using this
    ·have:=h 8 (by omega);simpa [okAt] using this
    ·have:=h 9 (by omega);simpa [okAt] using this
   obtain⟨ta,te⟩:=hT.out f
   have q0:wr.cell? ⟨b,0,none⟩=some (.int .i64 (vY x0 x1 x2 x3 10)):=hd.out.b0
   have q1:wr.cell? ⟨b,1,none⟩=some (.int .i64 (vM x5 x6 10)):=hd.out.b1
   have q2:wr.cell? ⟨b,2,none⟩=some (.int .i64 (vD x8 x9 10)):=hd.out.b2
   have hm:Hid (I64 (vM x5 x6 10)):=by
    show I64 (10 * x5+x6)
    unfold I64;omega
   generalize vY x0 x1 x2 x3 10=p at q0 ta te
   generalize vM x5 x6 10=q at q1 ta te hm
   generalize vD x8 x9 10=r at q2 ta te
   have hN:Hid (∀ w:World,Hid (Env w)→Calls Tryz.prog 173 #[.agg #[.int .i64 p,.int .i64 q,.int .i64 r]] w fun e w'=>e=.returned (.tuple #[.int .i64 (numA p q r),.int .i64 (numE p q r)])∧Ext w w'):=fun w he=>rNumber_c p q r w hm.out he
   generalize numA p q r=na at hN ta
   generalize numE p q r=ne at hN te
   subst na
   subst ne
   clear f
   go_wp2_with fail
   refine (hN.out _ (he.out.ext hd.out.ext)).mono ?_
   rintro e w1 ⟨rfl,hx1⟩
   have hx:Hid (Ext w w1):=hd.out.ext.trans hx1
   clear hx1
   go_wp2
   go_ret2
   exact⟨rfl,hx.out⟩
theorem rTake_c (l:List UInt8)(w:World)(hl:l.length≤1000000)(he:Hid (Env w)) :
  Calls Tryz.prog 141 #[.string ⟨l.toArray⟩] w fun e w'=>e=.returned (.tuple #[.int .i64 (takA l),.int .i64 (takE l)])∧Ext w w':=by
 by_cases h:l.length=10
 ·obtain ⟨c0,c1,c2,c3,c4,c5,c6,c7,c8,c9,rfl⟩:=ten h
  by_cases h4:(c4.toNat:Int)=45
  ·by_cases h7:(c7.toNat:Int)=45
   ·exact rTake_ten c0 c1 c2 c3 c4 c5 c6 c7 c8 c9 w h4 h7 he
   ·have hf:formL [c0,c1,c2,c3,c4,c5,c6,c7,c8,c9]=false:=by
     rw [←Bool.not_eq_true];intro e;exact h7 (by rw [((form_iff c0 c1 c2 c3 c4 c5 c6 c7 c8 c9).1 e).h7];rfl)
    rw [(tak_not _ hf).1,(tak_not _ hf).2];exact rTake_h7 c0 c1 c2 c3 c4 c5 c6 c7 c8 c9 w h4 h7
  ·have hf:formL [c0,c1,c2,c3,c4,c5,c6,c7,c8,c9]=false:=by
    rw [←Bool.not_eq_true];intro e;exact h4 (by rw [((form_iff c0 c1 c2 c3 c4 c5 c6 c7 c8 c9).1 e).h4];rfl)
   rw [(tak_not _ hf).1,(tak_not _ hf).2];exact rTake_h4 c0 c1 c2 c3 c4 c5 c6 c7 c8 c9 w h4
 ·rw [(tak_not _ (form_not l h)).1,(tak_not _ (form_not l h)).2];exact rTake_short l w h hl
end Go.Proofs.YtcijdkbopiaicaaGreatDoor.L3
