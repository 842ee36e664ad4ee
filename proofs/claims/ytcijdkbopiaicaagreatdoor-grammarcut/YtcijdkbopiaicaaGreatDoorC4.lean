/- Contracts that the proof of this law leans on: no statement of the seat is proved here. -/
import Derived.Test.YtcijdkbopiaicaaGreatDoorC0
import Derived.Test.YtcijdkbopiaicaaGreatDoorC1
set_option linter.unusedVariables false
set_option maxRecDepth 100000
set_option maxHeartbeats 8000000
namespace Go.Proofs.YtcijdkbopiaicaaGreatDoor.L7
def blankL:List UInt8:=[32,9,10]
def remL:List UInt8:=[35]
def sgnL:List UInt8:=[123,125,59]
def digL:List UInt8:=[48,49,50,51,52,53,54,55,56,57]
def letL:List UInt8:=[65,66,67,68,69,70,71,72,73,74,75,76,77,78,79,80,81,82,83,84,85,86,87,88,89,90,97,98,99,100,101,102,103,104,105,106,107,108,109,110,111,112,113,114,115,116,117,118,119,120,121,122]
def inWL:List UInt8:=letL++digL++[45]
def inNL:List UInt8:=digL++[46,45,47,37]
def beg (l these:List UInt8):Bool :=
 match l with
 | []=>false
 | c::_=>these.contains c
def rn (l these:List UInt8):Nat:=(l.takeWhile (these.contains ·)).length
def wh:Bool→List UInt8→Nat
 | _,[]=>0
 | false,c::l=>if blankL.contains c then 1+wh false l else if c=35 then 1+wh true l else 0
 | true,c::l=>if c=10 then 1+wh false l else 1+wh true l
def unhy:List UInt8→List UInt8
 | []=>[]
 | c::l=>if c=45 then l else c::l
def kd (l:List UInt8):Nat:=if beg l letL then 1 else if beg (unhy l) digL then 2 else if beg l sgnL then 3 else 0
def sz (l:List UInt8):Nat:=if beg l letL then rn l inWL else if beg (unhy l) digL then rn l inNL else if beg l sgnL then 1 else 0
structure Tok where
 kind:Nat
 at_:Nat
 text:List UInt8
def lexF:Nat→Nat→List UInt8→List Tok×Option Nat
 | 0,_,_=>([],none)
 | f+1,p,l =>
  let m:=l.drop (wh false l)
  let q:=p+wh false l
  match m with
  | []=>([],none)
  | _::_=>if sz m=0 then ([],some q) else
   let r:=lexF f (q+sz m) (m.drop (sz m))
   (⟨kd m,q,m.take (sz m)⟩::r.1,r.2)
def lex (p:Nat)(l:List UInt8):List Tok×Option Nat:=lexF (l.length+1) p l
theorem wh_le:∀ (b:Bool) (l:List UInt8),wh b l≤l.length
 | _,[]=>by cases ‹Bool› <;> simp [wh]
 | false,c::l=>by
  have h1:=wh_le false l;have h2:=wh_le true l
  rw [wh];simp only [List.length_cons];split <;> (try split) <;> omega
 | true,c::l=>by
  have h1:=wh_le false l;have h2:=wh_le true l
  rw [wh];simp only [List.length_cons];split <;> omega
theorem rn_le (l t:List UInt8):rn l t≤l.length:=(List.takeWhile_prefix _).length_le
theorem sz_le (l:List UInt8):sz l≤l.length:=by
 have h1:=rn_le l inWL;have h2:=rn_le l inNL
 unfold sz
 split
 ·exact h1
 ·split
  ·exact h2
  ·split
   ·rename_i h;cases l with
    | nil=>simp [beg] at h
    | cons c l=>simp
   ·omega
theorem lexF_fuel:∀ (f g p:Nat) (l:List UInt8),l.length<f→l.length<g→lexF f p l=lexF g p l
 | 0,_,_,l,h,_=>by omega
 | _,0,_,l,_,h=>by omega
 | f+1,g+1,p,l,hf,hg=>by
  rw [lexF,lexF]
  have hd:(l.drop (wh false l)).length≤l.length:=by simp
  cases hm:l.drop (wh false l) with
  | nil=>rfl
  | cons c m =>
   simp only []
   split
   ·rfl
   ·rename_i hs
    rw [hm] at hd
    have hlt:((c::m).drop (sz (c::m))).length<l.length:=by
     rw [List.length_drop]
     have:=sz_le (c::m)
     omega
    rw [lexF_fuel f g _ _ (by omega) (by omega)]
theorem lex_def (p:Nat)(l:List UInt8):lex p l =
  match l.drop (wh false l) with
  | []=>([],none)
  | c::m=>if sz (c::m)=0 then ([],some (p+wh false l)) else
   (⟨kd (c::m),p+wh false l,(c::m).take (sz (c::m))⟩::(lex (p+wh false l+sz (c::m)) ((c::m).drop (sz (c::m)))).1,(lex (p+wh false l+sz (c::m)) ((c::m).drop (sz (c::m)))).2):=by
 show lexF (l.length+1) p l=_
 rw [lexF]
 have hd:(l.drop (wh false l)).length≤l.length:=by simp
 cases hm:l.drop (wh false l) with
 | nil=>rfl
 | cons c m =>
  simp only []
  split
  ·rfl
  ·rename_i hs
   rw [hm] at hd
   have hlt:((c::m).drop (sz (c::m))).length<l.length:=by
    rw [List.length_drop]
    have:=sz_le (c::m)
    omega
   rw [lexF_fuel l.length (((c::m).drop (sz (c::m))).length+1) _ _ hlt (by omega)]
   rfl
theorem lex_skip {p n:Nat}{l:List UInt8}(h:wh false l=n+wh false (l.drop n)):lex p l=lex (p+n) (l.drop n):=by
 rw [lex_def,lex_def]
 rw [h,List.drop_drop]
 rw [Nat.add_assoc]
theorem wh_drop:∀ (b:Bool) (l:List UInt8),wh false (l.drop (wh b l))=0
 | b,[]=>by cases b <;> simp [wh]
 | false,c::l=>by
  rw [wh]
  split
  ·rw [Nat.add_comm,List.drop_succ_cons];exact wh_drop false l
  ·split
   ·rw [Nat.add_comm,List.drop_succ_cons];exact wh_drop true l
   ·rename_i h1 h2
    rw [List.drop_zero,wh,if_neg h1,if_neg h2]
 | true,c::l=>by
  rw [wh]
  split
  ·rw [Nat.add_comm,List.drop_succ_cons];exact wh_drop false l
  ·rw [Nat.add_comm,List.drop_succ_cons];exact wh_drop true l
theorem lex_pass (p:Nat)(l:List UInt8):lex p l=lex (p+wh false l) (l.drop (wh false l)) :=
 lex_skip (by rw [wh_drop];rfl)
theorem lex_end {p:Nat}{l:List UInt8}(h:wh false l=l.length):lex p l=([],none):=by
 rw [lex_def,h,List.drop_length]
theorem lex_bad {p:Nat}{c:UInt8}{m:List UInt8}(h:wh false (c::m)=0)(hs:sz (c::m)=0):lex p (c::m)=([],some p):=by
 rw [lex_def,h];simp [hs]
theorem lex_tok {p n:Nat}{c:UInt8}{m:List UInt8}(h:wh false (c::m)=0)(hs:sz (c::m)=n)(h0:0<n) :
  lex p (c::m)=(⟨kd (c::m),p,(c::m).take n⟩::(lex (p+n) ((c::m).drop n)).1,(lex (p+n) ((c::m).drop n)).2):=by
 rw [lex_def,h];simp [hs,show ¬ n=0 by omega]
def aT (l:List UInt8):List Tok:=if 20000<l.length then [] else match (lex 0 l).2 with
 | some _=>[]
 | none=>(lex 0 l).1++[⟨0,l.length,[]⟩]
def aP (l:List UInt8):Nat:=if 20000<l.length then 0 else ((lex 0 l).2).getD 0
def aE (l:List UInt8):Nat:=if 20000<l.length then 3 else if (lex 0 l).2.isSome then 6 else 0
theorem byte_all (p:UInt8→Bool)(h:((List.range 256).all fun n=>p (UInt8.ofNat n))=true)(c:UInt8):p c=true:=by
 have:=List.all_eq_true.1 h c.toNat (List.mem_range.2 c.toNat_lt)
 simpa using this
theorem let_inW (c:UInt8)(h:letL.contains c=true):inWL.contains c=true:=by
 have:=byte_all (fun c=>!letL.contains c||inWL.contains c) (by decide +kernel) c
 rw [h] at this;simpa using this
theorem dig_inN (c:UInt8)(h:digL.contains c=true):inNL.contains c=true:=by
 have:=byte_all (fun c=>!digL.contains c||inNL.contains c) (by decide +kernel) c
 rw [h] at this;simpa using this
theorem hy_inN:inNL.contains 45=true:=by decide
theorem hy_dig:digL.contains 45=false:=by decide
theorem hy_let:letL.contains 45=false:=by decide
theorem sgn_let (c:UInt8)(h:sgnL.contains c=true):letL.contains c=false∧digL.contains c=false∧c≠45:=by
 have h1:=byte_all (fun c=>!sgnL.contains c||(!letL.contains c&&!digL.contains c&&c != 45)) (by decide +kernel) c
 rw [h] at h1
 simp only [Bool.not_true,Bool.false_or,Bool.and_eq_true,Bool.not_eq_true',bne_iff_ne] at h1
 exact⟨h1.1.1,h1.1.2,h1.2⟩
theorem beg_cons (c:UInt8)(m t:List UInt8):beg (c::m) t=t.contains c:=rfl
theorem rn_nil (t:List UInt8):rn [] t=0:=rfl
theorem rn_in {c:UInt8}{l t:List UInt8}(h:t.contains c=true):rn (c::l) t=rn l t+1:=by
 unfold rn;rw [List.takeWhile_cons,if_pos h];simp
theorem rn_out {c:UInt8}{l t:List UInt8}(h:t.contains c=false):rn (c::l) t=0:=by
 unfold rn;rw [List.takeWhile_cons,if_neg (by rw [h];simp)];rfl
theorem rn_none {l t:List UInt8}(h:beg l t=false):rn l t=0:=by
 cases l with
 | nil=>rfl
 | cons c l=>exact rn_out h
theorem beg_rn:∀ (l t:List UInt8),beg (l.drop (rn l t)) t=false
 | [],t=>by simp [beg]
 | c::l,t=>by
  cases h:t.contains c
  ·rw [rn_out h];simpa [beg] using h
  ·rw [rn_in h,List.drop_succ_cons];exact beg_rn l t
theorem rn_dw (l t:List UInt8):l.length-(l.dropWhile (t.contains ·)).length=rn l t:=by
 have h:=congrArg List.length (List.takeWhile_append_dropWhile (p:=(t.contains ·)) (l:=l))
 rw [List.length_append] at h
 unfold rn
 omega
theorem wh_run:∀ (l:List UInt8),wh false l=rn l blankL+wh false (l.drop (rn l blankL))
 | []=>by simp [wh,rn]
 | c::l=>by
  cases h:blankL.contains c
  ·rw [rn_out h];simp
  ·rw [rn_in h,List.drop_succ_cons,wh,if_pos h,wh_run l];omega
theorem wh_none {l:List UInt8}(h:beg l blankL=false)(k:beg l remL=false):wh false l=0:=by
 cases l with
 | nil=>rfl
 | cons c l =>
  simp only [beg] at h k
  rw [wh,if_neg (by rw [h];simp),if_neg (by intro e;subst e;revert k;decide)]
def ln (l:List UInt8):Nat:=(l.takeWhile (· != 10)).length
theorem ln_le (l:List UInt8):ln l≤l.length:=(List.takeWhile_prefix _).length_le
theorem ln_in {c:UInt8}{l:List UInt8}(h:c≠10):ln (c::l)=ln l+1:=by
 unfold ln;rw [List.takeWhile_cons,if_pos (by simpa using h)];simp
theorem ln_out {l:List UInt8}:ln (10::l)=0:=by
 unfold ln;rw [List.takeWhile_cons,if_neg (by decide)];rfl
theorem wh_true:∀ (l:List UInt8),wh true l=ln l+wh false (l.drop (ln l))
 | []=>by simp [wh,ln]
 | c::l=>by
  by_cases h:c=10
  ·subst h;rw [ln_out,wh];simp [wh,blankL]
  ·rw [ln_in h,List.drop_succ_cons,wh,if_neg h,wh_true l];omega
theorem wh_line {l:List UInt8}(h:beg l remL=true):wh false l=ln l+wh false (l.drop (ln l))∧0<ln l:=by
 cases l with
 | nil=>simp [beg] at h
 | cons c l =>
  obtain rfl:c=35:=by simpa [beg,remL] using h
  rw [ln_in (by decide),List.drop_succ_cons]
  refine⟨?_,by omega⟩
  rw [wh,if_neg (by decide),if_pos rfl,wh_true l];omega
theorem rn_cut:∀ (m r t:List UInt8) (k:Nat),rn m t≤k→beg r t=false→rn (m.take k++r) t=rn m t
 | [],r,t,k,h,hr=>by simp [rn_none hr,rn_nil]
 | c::m,r,t,k,h,hr=>by
  cases hc:t.contains c
  ·rw [rn_out hc]
   cases k with
   | zero=>simpa using rn_none hr
   | succ k=>rw [List.take_succ_cons,List.cons_append,rn_out hc]
  ·rw [rn_in hc] at h ⊢
   obtain⟨j,rfl⟩:∃ j,k=j+1:=⟨k-1,by omega⟩
   rw [List.take_succ_cons,List.cons_append,rn_in hc,rn_cut m r t j (by omega) hr]
theorem sz_cons (c:UInt8)(m:List UInt8):sz (c::m)=if letL.contains c then rn m inWL+1 else if digL.contains c||(c==45&&beg m digL) then rn m inNL+1 else if sgnL.contains c then 1 else 0:=by
 unfold sz
 rw [beg_cons,beg_cons]
 cases hl:letL.contains c
 ·simp only [Bool.false_eq_true,if_false]
  by_cases hc:c=45
  ·subst hc
   simp only [unhy,if_true,hy_dig,Bool.false_or,beq_self_eq_true,Bool.true_and]
   cases hb:beg m digL
   ·rfl
   ·simp only [if_true];exact rn_in hy_inN
  ·simp only [unhy,if_neg hc,beg_cons]
   rw [show (c==45)=false by simpa using hc]
   simp only [Bool.false_and,Bool.or_false]
   cases hd:digL.contains c
   ·rfl
   ·simp only [if_true];exact rn_in (dig_inN c hd)
 ·simp only [if_true];exact rn_in (let_inW c hl)
theorem kd_cons (c:UInt8)(m:List UInt8):kd (c::m)=if letL.contains c then 1 else if digL.contains c||(c==45&&beg m digL) then 2 else if sgnL.contains c then 3 else 0:=by
 unfold kd
 rw [beg_cons,beg_cons]
 cases hl:letL.contains c
 ·simp only [Bool.false_eq_true,if_false]
  by_cases hc:c=45
  ·subst hc
   simp only [unhy,if_true,hy_dig,Bool.false_or,beq_self_eq_true,Bool.true_and]
  ·simp only [unhy,if_neg hc,beg_cons]
   rw [show (c==45)=false by simpa using hc]
   simp only [Bool.false_and,Bool.or_false]
 ·simp only [if_true]
def stops (r:List UInt8):Prop:=beg r inWL=false∧beg r inNL=false∧beg r digL=false
theorem stops_nil:stops []:=⟨rfl,rfl,rfl⟩
theorem cut_cons {c:UInt8}{m r:List UInt8}{k:Nat}(hk:sz (c::m)≤k+1)(hr:stops r) :
  sz (c::(m.take k++r))=sz (c::m)∧kd (c::(m.take k++r))=kd (c::m):=by
 have hb:letL.contains c=false→c=45→beg (m.take k++r) digL=beg m digL:=by
  intro hl hc
  cases m with
  | nil=>simpa [beg] using hr.2.2
  | cons d m =>
   cases k with
   | zero =>
    simp only [List.take_zero,List.nil_append,hr.2.2]
    cases hd:beg (d::m) digL
    ·rfl
    ·exfalso
     rw [sz_cons,hl,hc,hd] at hk
     simp only [beg] at hd
     rw [rn_in (dig_inN d hd)] at hk
     simp at hk
   | succ k=>rfl
 rw [sz_cons,sz_cons,kd_cons,kd_cons]
 rw [sz_cons] at hk
 cases hl:letL.contains c
 ·rw [hl] at hk
  simp only [Bool.false_eq_true,if_false] at hk ⊢
  have he:(digL.contains c||(c==45&&beg (m.take k++r) digL))=(digL.contains c||(c==45&&beg m digL)):=by
   by_cases hc:c=45
   ·rw [hb hl hc]
   ·rw [show (c==45)=false by simpa using hc];rfl
  rw [he]
  refine⟨?_,rfl⟩
  cases hd:(digL.contains c||(c==45&&beg m digL))
  ·rfl
  ·rw [hd] at hk
   simp only [if_true] at hk ⊢
   rw [rn_cut m r inNL k (by omega) hr.2.1]
 ·rw [hl] at hk
  simp only [if_true] at hk ⊢
  rw [rn_cut m r inWL k (by omega) hr.1]
  exact⟨rfl,trivial⟩
end Go.Proofs.YtcijdkbopiaicaaGreatDoor.L7
namespace Go.Proofs.YtcijdkbopiaicaaGreatDoor.L7
open Go.RowKit Go.Lib
def Env (w:World):Prop:=∃ m,w.cell? ⟨0,0,none⟩=some (.int .i64 m)
theorem Env.ext {w w':World}(h:Env w)(hx:Ext w w'):Env w':=by
 obtain⟨m,hm⟩:=h
 exact⟨m,hx.cell_of hm⟩
theorem ret_int {k:IntKind}{a b:Int}(h:a=b):Ending.returned (.int k a)=.returned (.int k b):=by rw [h]
theorem ret_bool {a b:Bool}(h:a=b):Ending.returned (.bool a)=.returned (.bool b):=by rw [h]
theorem idx_in:∀ (t:List UInt8) (c:UInt8),decide (0≤indexByte t c)=t.contains c
 | [],c=>rfl
 | b::t,c=>by
  have ih:=idx_in t c
  have hg:=indexByte_ge t c
  unfold indexByte
  by_cases h:b=c
  ·subst h;simp
  ·rw [if_neg (by simpa using h),List.contains_cons,show (c==b)=false by simpa using fun e=>h e.symm,Bool.false_or,←ih]
   split
   ·rename_i h1
    have h1':indexByte t c = -1:=by simpa using h1
    rw [h1']
   ·rename_i h1
    have h1':¬ indexByte t c = -1:=by simpa using h1
    have:0≤indexByte t c:=by omega
    rw [decide_eq_true this,decide_eq_true (by omega)]
theorem idxByte_c (t:List UInt8)(c:UInt8)(w:World) :
  Calls Tryz.prog 143 #[.string ⟨t.toArray⟩,.int .u8 c.toNat] w fun e w'=>e=.returned (.int .i64 (indexByte t c))∧w'=w:=by
 refine (Tryz.strings_IndexByte ⟨t.toArray⟩ c.toNat w).mono ?_
 rintro e w' ⟨rfl,rfl⟩
 have:(c.toNat:Int).toNat.toUInt8=c:=by simp
 rw [this]
 exact⟨rfl,rfl⟩
theorem begins_c (l t:List UInt8)(w:World) :
  Calls Tryz.prog 106 #[.string ⟨l.toArray⟩,.string ⟨t.toArray⟩] w fun e w'=>e=.returned (.bool (beg l t))∧w'=w:=by
 cases l with
 | nil =>
  go_enter Tryz.func106,Tryz.ntmps106
  go_wp2
  go_ret
  exact⟨rfl,rfl⟩
 | cons c l =>
  have h0:∀ h,(⟨(c::l).toArray⟩:ByteArray)[0]'h=c:=fun _=>rfl
  have hi:=idx_in t c
  replace hi:=hid hi
  go_enter Tryz.func106,Tryz.ntmps106
  go_wp2_with fail
  refine (idxByte_c t c _).mono ?_
  rintro e w1 ⟨rfl,rfl⟩
  go_wp2
  go_ret
  exact⟨ret_bool hi.out,rfl⟩
theorem begins_x (l t:List UInt8)(b:Bool)(h:beg l t=b)(w:World) :
  Calls Tryz.prog 106 #[.string ⟨l.toArray⟩,.string ⟨t.toArray⟩] w fun e w'=>e=.returned (.bool b)∧w'=w:=h ▸ begins_c l t w
theorem run_c (l t:List UInt8)(w:World)(hl:l.length≤20000)(ht:t.length<1000)(ha:∀ (j:Nat) b,t[j]?=some b→b.toNat<128) :
  Calls Tryz.prog 105 #[.string ⟨l.toArray⟩,.string ⟨t.toArray⟩] w fun e w'=>e=.returned (.int .i64 (rn l t))∧Ext w w':=by
 have hcall:Hid (Calls Tryz.prog 142 #[.string ⟨l.toArray⟩,.string ⟨t.toArray⟩] w fun e w'=>e=.returned (.string ⟨(trimLeftS l t).toArray⟩)∧Below w.heap.size w w') :=
  Tryz.strings_TrimLeft ⟨l.toArray⟩ ⟨t.toArray⟩ w (by rw [Lib.size_mk];omega) ha
 have hle:(trimLeftS l t).length≤l.length:=(List.dropWhile_suffix _).length_le
 have hrn:rn l t=l.length-(trimLeftS l t).length:=(rn_dw l t).symm
 rw [hrn]
 clear hrn ha
 generalize trimLeftS l t=R at *
 go_enter Tryz.func105,Tryz.ntmps105
 go_wp2_with fail
 refine hcall.out.mono ?_
 rintro e w1 ⟨rfl,hx⟩
 replace hx:=hid hx
 clear hcall
 go_wp2
 go_ret
 exact⟨ret_int (by omega),⟨hx.out⟩⟩
theorem run_x (l t:List UInt8)(n:Nat)(h:rn l t=n)(w:World)(hl:l.length≤20000)(ht:t.length<1000)(ha:∀ (j:Nat) b,t[j]?=some b→b.toNat<128) :
  Calls Tryz.prog 105 #[.string ⟨l.toArray⟩,.string ⟨t.toArray⟩] w fun e w'=>e=.returned (.int .i64 n)∧Ext w w':=h ▸ run_c l t w hl ht ha
theorem ascii_of (t:List UInt8)(h:t.all (fun b=>decide (b.toNat<128))=true):∀ (j:Nat) b,t[j]?=some b→b.toNat<128:=fun j b hb =>
 of_decide_eq_true (List.all_eq_true.1 h b (List.mem_of_getElem? hb))
theorem idx_ln:∀ (l:List UInt8),(index l [10] = -1∧ln l=l.length)∨index l [10]=(ln l:Int)
 | []=>Or.inl ⟨rfl,rfl⟩
 | c::l=>by
  by_cases h:c=10
  ·subst h
   right
   rw [ln_out];unfold index;simp
  ·have hp:List.isPrefixOf [10] (c::l)=false:=by simp [List.isPrefixOf];exact fun e=>h e.symm
   rw [ln_in h]
   unfold index
   rw [hp]
   rcases idx_ln l with ⟨h1,h2⟩ | h1
   ·left;rw [h1,h2];simp
   ·right
    rw [h1]
    have:((ln l:Int)==-1)=false:=by rw [beq_eq_false_iff_ne];omega
    simp [this]
theorem cut_ln (l:List UInt8):(cut l [10]).1=l.take (ln l):=by
 unfold cut
 rcases idx_ln l with ⟨h1,h2⟩ | h1
 ·rw [h1,h2,if_neg (by omega),List.take_length]
 ·rw [h1,if_pos (by omega)];simp
theorem ext_drop (l:List UInt8)(j:Nat):(⟨l.toArray⟩:ByteArray).extract j l.length=⟨(l.drop j).toArray⟩:=by
 apply ByteArray.ext
 simp [ByteArray.data_extract]
 exact List.take_of_length_le (by simp)
theorem ext_part (l:List UInt8)(j k:Nat):(⟨l.toArray⟩:ByteArray).extract j k=⟨((l.drop j).take (k-j)).toArray⟩:=by
 apply ByteArray.ext
 simp [ByteArray.data_extract,List.extract_eq_take_drop]
theorem cut_x (l m:List UInt8)(hm:l.take (ln l)=m)(w:World)(hl:l.length≤20000)(he:Hid (Env w)) :
  Calls Tryz.prog 107 #[.string ⟨l.toArray⟩,.string ⟨#[10]⟩] w fun e w'=>(∃ r f,e=.returned (.tuple #[.string ⟨m.toArray⟩,.string ⟨r⟩,.bool f]))∧Ext w w':=by
 obtain⟨n,hn⟩:=he.out
 refine (Tryz.strings_Cut ⟨l.toArray⟩ ⟨#[10]⟩ n w (by rw [Lib.size_mk];omega) hn).mono ?_
 rintro e w' ⟨rfl,n,rfl⟩
 have h':(cut (⟨l.toArray⟩:ByteArray).data.toList (⟨#[10]⟩:ByteArray).data.toList).1=m:=(cut_ln l).trans hm
 rw [h']
 exact⟨⟨_,_,rfl⟩,(Ext.refl w).drewN n⟩
theorem pass_c (l:List UInt8)(k:Nat)(w:World)(hl:l.length≤20000)(hk:k≤l.length)(he:Hid (Env w)) :
  Calls Tryz.prog 70 #[.string ⟨l.toArray⟩,.int .i64 k] w fun e w'=>e=.returned (.int .i64 ((k+wh false (l.drop k):Nat):Int))∧Ext w w':=by
 obtain⟨Z,hZ⟩:∃ Z,k+wh false (l.drop k)=Z:=⟨_,rfl⟩
 rw [hZ]
 replace hZ:=hid hZ
 go_enter Tryz.func70,Tryz.ntmps70
 go_wp2_with fail
 go_loopw [1] (fun i wr=>∃ j:Nat,j≤l.length∧i=.int .i64 (j:Int)∧Hid (j+wh false (l.drop j)=Z)∧Hid (Ext w wr)) (fun i _=>l.length-(RowKit.intOf i).toNat)
 case atStart=>exact ⟨k,hk,rfl,hZ,Ext.refl w⟩
 case round =>
  obtain⟨j,hj,rfl,hz,hx⟩:=hrel
  clear hZ hk
  obtain⟨M,hM⟩:∃ M,l.drop j=M:=⟨_,rfl⟩
  have hE:=ext_drop l j
  obtain⟨n,hn⟩:∃ n,rn M blankL=n:=⟨_,rfl⟩
  obtain⟨J,hJ⟩:∃ J,j+n=J:=⟨_,rfl⟩
  have hE2:=ext_drop l J
  have hMl:M.length=l.length-j:=by rw [←hM,List.length_drop]
  have hn2:n≤M.length:=hn ▸ rn_le M blankL
  obtain⟨M2,hM2⟩:∃ M2,l.drop J=M2:=⟨_,rfl⟩
  have hw1:=wh_run M
  have hb:=beg_rn M blankL
  have hMd:M.drop n=M2:=by rw [←hM,List.drop_drop,hJ,hM2]
  rw [hn,hMd] at hw1 hb
  rw [hM] at hz hE
  rw [hM2] at hE2
  have hM2l:M2.length=l.length-J:=by rw [←hM2,List.length_drop]
  have hJl:J≤l.length:=by omega
  have hsum:(j:Int)+(n:Int)=(J:Int):=by omega
  have hMle:M.length≤20000:=by omega
  have hM2le:M2.length≤20000:=by omega
  replace hw1:=hid hw1
  replace hb:=hid hb
  replace hMd:=hid hMd
  replace hn:=hid hn
  replace hJ:=hid hJ
  replace hM:=hid hM
  replace hM2:=hid hM2
  replace hMl:=hid hMl
  replace hM2l:=hid hM2l
  have he1:Hid (Env wr):=he.out.ext hx.out
  go_wp2_with fail
  refine (run_x M blankL n hn.out _ hMle (by decide) (ascii_of _ (by decide))).mono ?_
  rintro e w1 ⟨rfl,hx1⟩
  replace hx:Hid (Ext w w1):=hx.out.trans hx1
  replace he1:Hid (Env w1):=he1.out.ext hx1
  clear hx1
  go_wp2_with fail
  cases hr:beg M2 remL
  ·refine (begins_x M2 remL false hr _).mono ?_
   rintro e w2 ⟨rfl,rfl⟩
   replace hr:=hid hr
   go_wp2
   go_ret
   refine⟨ret_int ?_,hx.out⟩
   have h1:=hz.out;have h2:=hw1.out;have h3:=wh_none hb.out hr.out;have h4:=hJ.out
   omega
  ·refine (begins_x M2 remL true hr _).mono ?_
   rintro e w2 ⟨rfl,rfl⟩
   obtain⟨h1,h2⟩:=wh_line hr
   obtain⟨q,hq⟩:∃ q,ln M2=q:=⟨_,rfl⟩
   obtain⟨LN,hLN⟩:∃ LN,M2.take (ln M2)=LN:=⟨_,rfl⟩
   have hql:LN.length=q:=by rw [←hLN,List.length_take,Nat.min_eq_left (ln_le M2),hq]
   have hqM:q≤M2.length:=hq ▸ ln_le M2
   rw [hq] at h1 h2
   obtain⟨J3,hJ3⟩:∃ J3,J+q=J3:=⟨_,rfl⟩
   have hd3:M2.drop q=l.drop J3:=by rw [←hM2.out,List.drop_drop,hJ3]
   rw [hd3] at h1
   have hsum2:(J:Int)+(q:Int)=(J3:Int):=by omega
   replace h1:=hid h1
   replace hd3:=hid hd3
   replace hq:=hid hq
   replace hJ3:=hid hJ3
   replace hLN:=hid hLN
   clear hr
   go_wp2_with fail
   refine (cut_x M2 LN hLN.out _ hM2le he1).mono ?_
   rintro e w3 ⟨⟨r,f,rfl⟩,hx1⟩
   replace hx:Hid (Ext w w3):=hx.out.trans hx1
   clear hx1 he1
   go_wp2
   go_roundw
   case rel =>
    refine⟨J3,?_,rfl,?_,hx⟩
    ·have:=hM2l.out;have:=hJ3.out;omega
    ·have h4:=hz.out;have h5:=hw1.out;have h6:=hJ.out;have h7:=hJ3.out;have h8:=h1.out
     show J3+_=Z
     omega
   case measure=>have:=hM2l.out;have:=hJ3.out;have:=hJ.out;simp [RowKit.intOf];omega
theorem unhy_eq (l:List UInt8):trimPrefix l [45]=unhy l:=by
 cases l with
 | nil=>rfl
 | cons c l =>
  unfold trimPrefix hasPrefix unhy
  by_cases h:c=45
  ·subst h;simp
  ·show _=(if c=45 then l else c::l)
   rw [if_neg h]
   have:List.isPrefixOf [45] (c::l)=false:=by simp [List.isPrefixOf];exact fun e=>h e.symm
   simp [this]
theorem trimPrefix_x (l m:List UInt8)(h:unhy l=m)(w:World) :
  Calls Tryz.prog 145 #[.string ⟨l.toArray⟩,.string ⟨#[45]⟩] w fun e w'=>e=.returned (.string ⟨m.toArray⟩)∧w'=w:=by
 refine (Tryz.strings_TrimPrefix ⟨l.toArray⟩ ⟨#[45]⟩ w).mono ?_
 rintro e w' ⟨rfl,rfl⟩
 have h':trimPrefix (⟨l.toArray⟩:ByteArray).data.toList (⟨#[45]⟩:ByteArray).data.toList=m:=(unhy_eq l).trans h
 rw [h']
 exact⟨rfl,rfl⟩
theorem measure_c (l:List UInt8)(w:World)(hl:l.length≤20000) :
  Calls Tryz.prog 108 #[.string ⟨l.toArray⟩] w fun e w'=>e=.returned (.tuple #[.int .i64 (kd l),.int .i64 (sz l)])∧Ext w w':=by
 unfold kd sz
 obtain⟨m,hm⟩:∃ m,unhy l=m:=⟨_,rfl⟩
 obtain⟨n1,hn1⟩:∃ n,rn l inWL=n:=⟨_,rfl⟩
 obtain⟨n2,hn2⟩:∃ n,rn l inNL=n:=⟨_,rfl⟩
 rw [hm,hn1,hn2]
 replace hm:=hid hm
 replace hn1:=hid hn1
 replace hn2:=hid hn2
 cases h1:beg l letL
 ·cases h2:beg m digL
  ·cases h3:beg l sgnL
   ·replace h1:=hid h1
    replace h2:=hid h2
    replace h3:=hid h3
    go_enter Tryz.func108,Tryz.ntmps108
    go_wp2_with fail
    refine (begins_x l letL false h1.out _).mono ?_
    rintro e w1 ⟨rfl,rfl⟩
    go_wp2_with fail
    refine (trimPrefix_x l m hm.out _).mono ?_
    rintro e w2 ⟨rfl,rfl⟩
    go_wp2_with fail
    refine (begins_x m digL false h2.out _).mono ?_
    rintro e w3 ⟨rfl,rfl⟩
    go_wp2_with fail
    refine (begins_x l sgnL false h3.out _).mono ?_
    rintro e w4 ⟨rfl,rfl⟩
    go_wp2
    go_ret2
    exact⟨rfl,Ext.refl _⟩
   ·replace h1:=hid h1
    replace h2:=hid h2
    replace h3:=hid h3
    go_enter Tryz.func108,Tryz.ntmps108
    go_wp2_with fail
    refine (begins_x l letL false h1.out _).mono ?_
    rintro e w1 ⟨rfl,rfl⟩
    go_wp2_with fail
    refine (trimPrefix_x l m hm.out _).mono ?_
    rintro e w2 ⟨rfl,rfl⟩
    go_wp2_with fail
    refine (begins_x m digL false h2.out _).mono ?_
    rintro e w3 ⟨rfl,rfl⟩
    go_wp2_with fail
    refine (begins_x l sgnL true h3.out _).mono ?_
    rintro e w4 ⟨rfl,rfl⟩
    go_wp2
    go_ret2
    exact⟨rfl,Ext.refl _⟩
  ·replace h1:=hid h1
   replace h2:=hid h2
   go_enter Tryz.func108,Tryz.ntmps108
   go_wp2_with fail
   refine (begins_x l letL false h1.out _).mono ?_
   rintro e w1 ⟨rfl,rfl⟩
   go_wp2_with fail
   refine (trimPrefix_x l m hm.out _).mono ?_
   rintro e w2 ⟨rfl,rfl⟩
   go_wp2_with fail
   refine (begins_x m digL true h2.out _).mono ?_
   rintro e w3 ⟨rfl,rfl⟩
   go_wp2_with fail
   refine (run_x l inNL n2 hn2.out _ hl (by decide) (ascii_of _ (by decide))).mono ?_
   rintro e w4 ⟨rfl,hx⟩
   replace hx:=hid hx
   go_wp2
   go_ret2
   exact⟨rfl,hx.out⟩
 ·replace h1:=hid h1
  go_enter Tryz.func108,Tryz.ntmps108
  go_wp2_with fail
  refine (begins_x l letL true h1.out _).mono ?_
  rintro e w1 ⟨rfl,rfl⟩
  go_wp2_with fail
  refine (run_x l inWL n1 hn1.out _ hl (by decide) (ascii_of _ (by decide))).mono ?_
  rintro e w4 ⟨rfl,hx⟩
  replace hx:=hid hx
  go_wp2
  go_ret2
  exact⟨rfl,hx.out⟩
theorem box3f (w:World)(x y z:Value)(t:TypeId):∃ W b,w.alloc (.cells #[x,y,z] t)=W∧w.heap.size=b∧Ext w W∧W.cell? ⟨b,0,none⟩=some x∧W.cell? ⟨b,1,none⟩=some y∧W.cell? ⟨b,2,none⟩=some z ∧
  W.frozen? ⟨b,0,none⟩=false∧W.frozen? ⟨b,1,none⟩=false∧W.frozen? ⟨b,2,none⟩=false :=
 ⟨_,_,rfl,rfl,(Ext.refl w).alloc _ _,by simp [go_sem],by simp [go_sem],by simp [go_sem],by simp [go_sem],by simp [go_sem],by simp [go_sem]⟩
structure Bx (w W:World)(b:Nat)(x y z:Value):Prop where
 ext:Ext w W
 lo:w.heap.size≤b
 c0:W.cell? ⟨b,0,none⟩=some x
 c1:W.cell? ⟨b,1,none⟩=some y
 c2:W.cell? ⟨b,2,none⟩=some z
 z0:W.frozen? ⟨b,0,none⟩=false
 z1:W.frozen? ⟨b,1,none⟩=false
 z2:W.frozen? ⟨b,2,none⟩=false
theorem other {w:World}{b o b' o':Nat}(x:Value)(h:b≠b'∨o≠o'):(w.setCell ⟨b,o,none⟩ x).cell? ⟨b',o',none⟩=w.cell? ⟨b',o',none⟩ :=
 by
  apply World.cell?_setCell_other
  intro e
  injection e with e1 e2
  omega
theorem same {w:World}{a:Addr}{v u:Value}(h:w.cell? a=some u):(w.setCell a v).cell? a=some v:=by
 apply World.cell?_setCell_same
 exact h
theorem Bx.on {w W W':World}{b:Nat}{x y z:Value}(h:Bx w W b x y z)(hx:Ext W W'):Bx w W' b x y z :=
 ⟨h.ext.trans hx,h.lo,hx.cell_of h.c0,hx.cell_of h.c1,hx.cell_of h.c2,by rw [hx.froz _ _ (lt_of_cell h.c0)];exact h.z0,by rw [hx.froz _ _ (lt_of_cell h.c1)];exact h.z1,by rw [hx.froz _ _ (lt_of_cell h.c2)];exact h.z2⟩
theorem Bx.set {w W:World}{b:Nat}{x y z:Value}(h:Bx w W b x y z)(x' y' z':Value):Bx w (((W.setCell ⟨b,0,none⟩ x').setCell ⟨b,1,none⟩ y').setCell ⟨b,2,none⟩ z') b x' y' z':=by
 have h1:(W.setCell ⟨b,0,none⟩ x').cell? ⟨b,1,none⟩=some y:=by rw [other _ (Or.inr (by omega))];exact h.c1
 have h2:((W.setCell ⟨b,0,none⟩ x').setCell ⟨b,1,none⟩ y').cell? ⟨b,2,none⟩=some z:=by rw [other _ (Or.inr (by omega)),other _ (Or.inr (by omega))];exact h.c2
 refine⟨((h.ext.setCell h.lo _).setCell h.lo _).setCell h.lo _,h.lo,?_,?_,same h2,by simp [go_sem,h.z0],by simp [go_sem,h.z1],by simp [go_sem,h.z2]⟩
 ·rw [other _ (Or.inr (by omega)),other _ (Or.inr (by omega))];exact same h.c0
 ·rw [other _ (Or.inr (by omega))];exact same h1
theorem needAt_ok (c k:Int)(w:World) :
  Calls Tryz.prog 21 #[.bool true,.int .i64 c,.int .i64 k] w fun e w'=>e=.returned (.tuple #[])∧w'=w:=by
 go_enter Tryz.func21,Tryz.ntmps21
 go_wp2
 go_end0
 exact⟨rfl,rfl⟩
theorem needAt_no (c k:Int)(w:World) :
  Calls Tryz.prog 21 #[.bool false,.int .i64 c,.int .i64 k] w fun e w'=>e=.panicked [{ v:=.iface 87 (.agg #[.int .i64 c,.int .i64 k]),recovered:=false }]∧w'=w:=by
 go_enter Tryz.func21,Tryz.ntmps21
 go_wp2
 exact⟨rfl,rfl,rfl⟩
theorem clone_c (l:List UInt8)(w:World)(hl:l.length≤20000) :
  Calls Tryz.prog 109 #[.string ⟨l.toArray⟩] w fun e w'=>e=.returned (.string ⟨l.toArray⟩)∧Ext w w':=by
 go_enter Tryz.func109,Tryz.ntmps109
 go_wp2_with fail
 refine (Tryz.stringslite_Clone ⟨l.toArray⟩ w (by rw [Lib.size_mk];omega)).mono ?_
 rintro e w1 ⟨rfl,hx⟩
 replace hx:=hid hx
 go_wp2
 go_ret
 exact⟨rfl,⟨hx.out⟩⟩
theorem measure_x (l:List UInt8)(k n:Nat)(h1:kd l=k)(h2:sz l=n)(w:World)(hl:l.length≤20000) :
  Calls Tryz.prog 108 #[.string ⟨l.toArray⟩] w fun e w'=>e=.returned (.tuple #[.int .i64 k,.int .i64 n])∧Ext w w':=by
 rw [←h1,←h2];exact measure_c l w hl
theorem next_no (l m:List UInt8)(k:Nat)(w:World)(hm:l.drop k=m)(hs:sz m=0)(hl:l.length≤20000)(hk:k≤l.length) :
  Calls Tryz.prog 71 #[.string ⟨l.toArray⟩,.int .i64 k] w fun e w'=>e=.panicked [{ v:=.iface 87 (.agg #[.int .i64 6,.int .i64 k]),recovered:=false }]∧Ext w w':=by
 have hE:=ext_drop l k
 rw [hm] at hE
 have hml:m.length≤20000:=by rw [←hm,List.length_drop];omega
 replace hm:=hid hm
 replace hs:=hid hs
 obtain⟨q,hq⟩:∃ q,kd m=q:=⟨_,rfl⟩
 replace hq:=hid hq
 go_enter Tryz.func71,Tryz.ntmps71
 go_wp2_with fail
 refine (measure_x m q 0 hq.out hs.out _ hml).mono ?_
 rintro e w1 ⟨rfl,hx⟩
 replace hx:Hid (Ext w w1):=(by exact (Ext.refl w).alloc _ _:Ext w _).trans hx
 go_wp2_with fail
 refine (needAt_no _ _ _).mono ?_
 rintro e w2 ⟨rfl,rfl⟩
 go_wp2
 exact⟨rfl,rfl,hx.out⟩
theorem next_ok (l m t:List UInt8)(k n q:Nat)(w:World)(hm:l.drop k=m)(hs:sz m=n)(hq:kd m=q)(hn:0<n)(ht:m.take n=t)(hl:l.length≤20000)(hk:k≤l.length) :
  Calls Tryz.prog 71 #[.string ⟨l.toArray⟩,.int .i64 k] w fun e w'=>e=.returned (.agg #[.int .i64 q,.int .i64 k,.string ⟨t.toArray⟩])∧Ext w w':=by
 have hE:=ext_drop l k
 have hE2:=ext_part l k (k+n)
 rw [show k+n-k=n by omega,hm,ht] at hE2
 rw [hm] at hE
 have hml:m.length=l.length-k:=by rw [←hm,List.length_drop]
 have hnm:n≤m.length:=hs ▸ sz_le m
 have hml2:m.length≤20000:=by omega
 have htl:t.length≤20000:=by rw [←ht,List.length_take];omega
 obtain⟨K,hK⟩:∃ K,k+n=K:=⟨_,rfl⟩
 rw [hK] at hE2
 have hsum:(k:Int)+(n:Int)=(K:Int):=by omega
 have hKl:K≤l.length:=by omega
 have hkK:k≤K:=by omega
 replace hm:=hid hm
 replace hs:=hid hs
 replace hq:=hid hq
 replace ht:=hid ht
 replace hK:=hid hK
 replace hml:=hid hml
 go_enter Tryz.func71,Tryz.ntmps71
 go_wp2_with fail
 obtain⟨W0,b,hW0,hb,hx0,c0,c1,c2,z0,z1,z2⟩:=box3f w (.int .i64 0) (.int .i64 0) (.string ⟨#[]⟩) 64
 have hB:Bx w W0 b (.int .i64 0) (.int .i64 0) (.string ⟨#[]⟩):=⟨hx0,by omega,c0,c1,c2,z0,z1,z2⟩
 rw [hW0,hb]
 clear hW0 hb hx0 c0 c1 c2 z0 z1 z2
 refine (measure_x m q n hq.out hs.out _ hml2).mono ?_
 rintro e w1 ⟨rfl,hx⟩
 replace hB:=hB.on hx
 clear hx
 replace hB:=hid hB
 have hd:decide (0<(n:Int))=true:=by simpa using hn
 go_wp2_with fail
 refine (needAt_ok _ _ _).mono ?_
 rintro e w2 ⟨rfl,rfl⟩
 go_wp2_with fail
 refine (clone_c t _ htl).mono ?_
 rintro e w3 ⟨rfl,hx⟩
 replace hB:=hid <| hB.out.on hx
 clear hx
 have c0:=hB.out.c0;have c1:=hB.out.c1;have c2:=hB.out.c2;have z0:=hB.out.z0;have z1:=hB.out.z1;have z2:=hB.out.z2
 go_wp2
 replace hB:=hB.out.set (.int .i64 (q:Int)) (.int .i64 (k:Int)) (.string ⟨t.toArray⟩)
 clear c0 c1 c2 z0 z1 z2
 generalize ((w3.setCell ⟨b,0,none⟩ (.int .i64 (q:Int))).setCell ⟨b,1,none⟩ (.int .i64 (k:Int))).setCell ⟨b,2,none⟩ (.string ⟨t.toArray⟩)=Wf at *
 exact bodyPost_ret (v:=.agg #[.int .i64 q,.int .i64 k,.string ⟨t.toArray⟩]) (by simp [results,Tryz.results71,go_sem,hB.c0,hB.c1,hB.c2]) rfl ⟨rfl,hB.ext⟩
def cellT (t:Tok):List Value:=[.int .i64 t.kind,.int .i64 t.at_,.string ⟨t.text.toArray⟩]
def cellsT (ts:List Tok):List Value:=ts.flatMap cellT
theorem cellsT_snoc (ts:List Tok)(t:Tok):cellsT (ts++[t])=cellsT ts++cellT t:=by simp [cellsT]
theorem info_tok:(Tryz.prog.info? 64).map (fun i=>(i.zero,i.size,i.bytes))=some (some (.agg #[.int .i64 0,.int .i64 0,.string ⟨#[]⟩]),3,32):=by kernel_rfl
theorem own_ext {w w':World}{B:Nat}{e:TypeId}{z:Nat}{v:Value}{T:Nat}{xs:List Value}(h:w.ownsRow B e z v T xs)(hx:Ext w w'):w'.ownsRow B e z v T xs:=by
 refine⟨h.1,?_⟩
 rcases h.2 with h0 | ⟨g,c,cur,h1,h2,h3,h4⟩
 ·exact Or.inl h0
 ·refine Or.inr ⟨g,c,cur,h1,h2,?_,h4⟩
  rw [hx.below.block g (Array.getElem?_eq_some_iff.1 h3).1]
  exact h3
theorem own_lo {w:World}{B:Nat}{e:TypeId}{z:Nat}{v:Value}{T:Nat}{xs:List Value}(h:w.ownsRow B e z v T xs):∀ k,v.ownBlock=some k→B≤k:=fun k hk=>(h.lt k hk).1
structure Own (B:Nat)(w:World)(v:Value)(ts:List Tok):Prop where
 row:w.ownsRow B 64 3 v ts.length (cellsT ts)
theorem Own.ext {B:Nat}{w w':World}{v:Value}{ts:List Tok}(h:Own B w v ts)(hx:Ext w w'):Own B w' v ts:=⟨own_ext h.row hx⟩
theorem Own.nil (B:Nat)(w:World):Own B w (.slice none 0 0) []:=⟨World.ownsRow_nil _ _ _ _⟩
theorem Own.snoc {B:Nat}{w:World}{v:Value}{ts:List Tok}{t:Tok}(h:w.ownsRow B 64 3 v (ts.length+1) (cellsT ts++cellT t)):Own B w v (ts++[t]) :=
 ⟨by rw [cellsT_snoc];simpa using h⟩
theorem pass_x (l:List UInt8)(k Z:Nat)(hZ:k+wh false (l.drop k)=Z)(w:World)(hl:l.length≤20000)(hk:k≤l.length)(he:Hid (Env w)) :
  Calls Tryz.prog 70 #[.string ⟨l.toArray⟩,.int .i64 k] w fun e w'=>e=.returned (.int .i64 Z)∧Ext w w':=hZ ▸ pass_c l k w hl hk he
structure Told (l:List UInt8)(j:Nat)(ts:List Tok):Prop where
 le:j≤l.length
 few:ts.length≤j
 white:wh false (l.drop j)=0
 all:lex 0 l=(ts++(lex j (l.drop j)).1,(lex j (l.drop j)).2)
theorem Told.start (l:List UInt8):Told l (wh false l) [] :=
 ⟨wh_le false l,Nat.zero_le _,wh_drop false l,by have h:=lex_pass 0 l;simpa using h⟩
theorem Told.fin {l:List UInt8}{j:Nat}{ts:List Tok}(h:Told l j ts)(hj:¬ j<l.length):lex 0 l=(ts,none):=by
 have hd:l.drop j = []:=List.drop_of_length_le (by omega)
 rw [h.all,hd,lex_end (l:=[]) rfl];simp
theorem Told.bad {l:List UInt8}{j:Nat}{ts:List Tok}(h:Told l j ts)(hj:j<l.length)(hs:sz (l.drop j)=0):lex 0 l=(ts,some j):=by
 cases hm:l.drop j with
 | nil=>have:=congrArg List.length hm;simp at this;omega
 | cons c m =>
  have hw:=h.white
  rw [hm] at hw hs
  rw [h.all,hm,lex_bad hw hs];simp
theorem Told.step {l:List UInt8}{j n:Nat}{ts:List Tok}(h:Told l j ts)(hj:j<l.length)(hs:sz (l.drop j)=n)(hn:0<n) :
  j+n≤l.length∧Told l (j+n+wh false (l.drop (j+n))) (ts++[⟨kd (l.drop j),j,(l.drop j).take n⟩]):=by
 have hz:=sz_le (l.drop j)
 rw [List.length_drop] at hz
 have hle:j+n≤l.length:=by omega
 have hw2:=wh_le false (l.drop (j+n))
 rw [List.length_drop] at hw2
 refine⟨hle,by omega,by have:=h.few;simp;omega,by rw [←List.drop_drop];exact wh_drop false _,?_⟩
 cases hm:l.drop j with
 | nil=>have:=congrArg List.length hm;simp at this;omega
 | cons c m =>
  have hw:=h.white
  rw [hm] at hw hs
  have hd:(c::m).drop n=l.drop (j+n):=by rw [←hm,List.drop_drop]
  rw [h.all,hm,lex_tok hw hs hn,hd,lex_pass (j+n) (l.drop (j+n)),List.drop_drop]
  simp
theorem scan_ok (l:List UInt8)(ts:List Tok)(w:World)(hl:l.length≤20000)(hlex:lex 0 l=(ts,none))(he:Hid (Env w)) :
  Calls Tryz.prog 47 #[.string ⟨l.toArray⟩] w fun e w'=>(∃ v,e=.returned v∧Own w.heap.size w' v (ts++[⟨0,l.length,[]⟩]))∧Ext w w':=by
 obtain⟨i0,hi,hz0,hz1,hz2⟩:=info_parts info_tok
 have hst:=Told.start l
 obtain⟨j0,hj0⟩:∃ j,wh false l=j:=⟨_,rfl⟩
 rw [hj0] at hst
 replace hlex:=hid hlex
 replace hst:=hid hst
 replace hj0:=hid hj0
 go_enter Tryz.func47,Tryz.ntmps47
 go_wp2_with fail
 refine (pass_x l 0 j0 (by simpa using hj0.out) _ hl (Nat.zero_le _) he).mono ?_
 rintro e w1 ⟨rfl,hx⟩
 replace hx:=hid hx
 go_wp2_with fail
 go_loopw [3,4] (fun v i wr=>∃ (j:Nat) (us:List Tok),j≤l.length∧us.length≤j∧i=.int .i64 (j:Int)∧Hid (Told l j us)∧Hid (Own w.heap.size wr v us)∧Hid (Ext w wr)) (fun _ i _=>l.length-(RowKit.intOf i).toNat)
 case atStart=>exact ⟨j0,[],hst.out.le,Nat.zero_le _,rfl,hst,Own.nil _ _,hx⟩
 case round =>
  obtain⟨j,us,hjl,huj,rfl,htold,hr,hx⟩:=hrel
  clear hst hj0
  have he1:Hid (Env wr):=he.out.ext hx.out
  by_cases hlt:j<l.length
  ·obtain ⟨m,hm⟩:∃ m,l.drop j=m:=⟨_,rfl⟩
   obtain⟨n,hn⟩:∃ n,sz m=n:=⟨_,rfl⟩
   obtain⟨q,hq⟩:∃ q,kd m=q:=⟨_,rfl⟩
   obtain⟨t,ht⟩:∃ t,m.take n=t:=⟨_,rfl⟩
   have hpos:0<n:=by
    rcases Nat.eq_zero_or_pos n with h0 | h0
    ·exfalso
     have h1:=htold.out.bad hlt (by rw [hm,hn,h0])
     have h2:=hlex.out
     rw [h1] at h2
     simp at h2
    ·exact h0
   obtain⟨hle,hnew⟩:=htold.out.step hlt (by rw [hm];exact hn) hpos
   obtain⟨J,hJ⟩:∃ J,j+n+wh false (l.drop (j+n))=J:=⟨_,rfl⟩
   rw [hm,hJ,hq,ht] at hnew
   obtain⟨K,hK⟩:∃ K,j+n=K:=⟨_,rfl⟩
   rw [hK] at hJ hle
   have htl:t.length=n:=by rw [←ht,List.length_take];have:=sz_le m;omega
   have hsum:(j:Int)+(n:Int)=(K:Int):=by omega
   replace hm:=hid hm
   replace hn:=hid hn
   replace hq:=hid hq
   replace ht:=hid ht
   replace hJ:=hid hJ
   replace hK:=hid hK
   replace hnew:=hid hnew
   go_wp2_with fail
   refine (next_ok l m t j n q _ hm.out hn.out hq.out hpos ht.out hl hjl).mono ?_
   rintro e w2 ⟨rfl,hx1⟩
   replace hr:Hid (Own _ w2 _ us):=hr.out.ext hx1
   replace hx:Hid (Ext w w2):=hx.out.trans hx1
   replace he1:Hid (Env w2):=he1.out.ext hx1
   clear hx1
   have hsz:=hx.out.size
   have hown:=hr.out.row.lt
   replace hown:=hid hown
   go_wp2_with (at_builtin;refine wpList_append_own _ rfl (.tmp 15) (.tmp 17) 53 rfl w.heap.size 64 i0 (.agg #[.int .i64 0,.int .i64 0,.string ⟨#[]⟩]) 3 32 Tryz.underlying53 hi hz0 hz1 hz2 rfl (by decide) _ _ _ rfl ((hr.out.row.alloc _).alloc _) ⟨w2.heap.size+1,0,none⟩ 1 1 (cellT ⟨q,j,t⟩) rfl rfl ?c1 ?c2 ?c3 ?c4 ?c5 ?_)
   case c1 =>
    intro p u hp
    match p,hp with
    | 0,hp=>simp [cellT] at hp;subst hp;simp [Addr.add,go_sem]
    | 1,hp=>simp [cellT] at hp;subst hp;simp [Addr.add,go_sem]
    | 2,hp=>simp [cellT] at hp;subst hp;simp [Addr.add,go_sem]
    | p+3,hp=>simp [cellT] at hp
   case c2=>intro u hu;simp [cellT] at hu;rcases hu with rfl | rfl | rfl <;> rfl
   case c3=>unfold maxLen;omega
   case c4=>omega
   case c5=>simp;omega
   intro v' w3 hown' hgrow _
   have hx3:Hid (Ext w w3):=⟨(((hx.out.alloc _ _).alloc _ _).below).grown hgrow (by simp;omega) (own_lo hr.out.row)⟩
   have hr3:Hid (Own w.heap.size w3 v' (us++[⟨q,j,t⟩])):=Own.snoc hown'
   have hc:w3.cell? ⟨w2.heap.size,2,none⟩=some (.string ⟨t.toArray⟩):=by
    refine hgrow.cell (a:=⟨w2.heap.size,2,none⟩) (by simp [go_sem]) ?_
    intro e
    exact absurd (hown.out _ e.symm).2 (Nat.lt_irrefl _)
   have he3:Hid (Env w3):=he.out.ext hx3.out
   clear hown' hgrow hr hx he1 hown
   go_wp2_with fail
   refine (pass_x l K J hJ.out _ hl hle he3).mono ?_
   rintro e w4 ⟨rfl,hx1⟩
   have hx4:Hid (Ext w w4):=hx3.out.trans hx1
   have hr4:Hid (Own w.heap.size w4 v' (us++[⟨q,j,t⟩])):=hr3.out.ext hx1
   clear hx1 hr3 hx3 he3 hc
   go_wp2
   go_roundw
   case rel=>exact ⟨J,us++[⟨q,j,t⟩],hnew.out.le,hnew.out.few,rfl,hnew,hr4,hx4⟩
   case measure=>have:=hJ.out;have:=hK.out;have:=hnew.out.le;simp [RowKit.intOf];omega
  ·have hf:=htold.out.fin hlt
   obtain rfl:us=ts:=by have h:=hlex.out;rw [hf] at h;exact (Prod.mk.inj h).1
   clear hf
   have hsz:=hx.out.size
   have hd:decide ((j:Int)<(l.length:Int))=false:=by simpa using hlt
   go_wp2_with (at_builtin;refine wpList_append_own _ rfl (.tmp 26) (.tmp 30) 53 rfl w.heap.size 64 i0 (.agg #[.int .i64 0,.int .i64 0,.string ⟨#[]⟩]) 3 32 Tryz.underlying53 hi hz0 hz1 hz2 rfl (by decide) _ _ _ rfl (hr.out.row.alloc _) ⟨wr.heap.size,0,none⟩ 1 1 (cellT ⟨0,l.length,[]⟩) rfl rfl ?c1 ?c2 ?c3 ?c4 ?c5 ?_)
   case c1 =>
    intro p u hp
    match p,hp with
    | 0,hp=>simp [cellT] at hp;subst hp;simp [Addr.add,go_sem]
    | 1,hp=>simp [cellT] at hp;subst hp;simp [Addr.add,go_sem]
    | 2,hp=>simp [cellT] at hp;subst hp;simp [Addr.add,go_sem]
    | p+3,hp=>simp [cellT] at hp
   case c2=>intro u hu;simp [cellT] at hu;rcases hu with rfl | rfl | rfl <;> rfl
   case c3=>unfold maxLen;omega
   case c4=>omega
   case c5=>simp;omega
   intro v' w3 hown' hgrow _
   have hx3:Hid (Ext w w3):=⟨((hx.out.alloc _ _).below).grown hgrow (by simp;omega) (own_lo hr.out.row)⟩
   have hr3:Hid (Own w.heap.size w3 v' (us++[⟨0,l.length,[]⟩])):=Own.snoc hown'
   clear hown' hgrow hr hx he1
   go_wp2
   go_ret
   exact⟨⟨_,rfl,hr3.out⟩,hx3.out⟩
theorem scan_no (l:List UInt8)(ts:List Tok)(P:Nat)(w:World)(hl:l.length≤20000)(hlex:lex 0 l=(ts,some P))(he:Hid (Env w)) :
  Calls Tryz.prog 47 #[.string ⟨l.toArray⟩] w fun e w'=>e=.panicked [{ v:=.iface 87 (.agg #[.int .i64 6,.int .i64 P]),recovered:=false }]∧Ext w w':=by
 obtain⟨i0,hi,hz0,hz1,hz2⟩:=info_parts info_tok
 have hst:=Told.start l
 obtain⟨j0,hj0⟩:∃ j,wh false l=j:=⟨_,rfl⟩
 rw [hj0] at hst
 replace hlex:=hid hlex
 replace hst:=hid hst
 replace hj0:=hid hj0
 go_enter Tryz.func47,Tryz.ntmps47
 go_wp2_with fail
 refine (pass_x l 0 j0 (by simpa using hj0.out) _ hl (Nat.zero_le _) he).mono ?_
 rintro e w1 ⟨rfl,hx⟩
 replace hx:=hid hx
 go_wp2_with fail
 go_loopw [3,4] (fun v i wr=>∃ (j:Nat) (us:List Tok),j≤l.length∧us.length≤j∧i=.int .i64 (j:Int)∧Hid (Told l j us)∧Hid (Own w.heap.size wr v us)∧Hid (Ext w wr)) (fun _ i _=>l.length-(RowKit.intOf i).toNat)
 case atStart=>exact ⟨j0,[],hst.out.le,Nat.zero_le _,rfl,hst,Own.nil _ _,hx⟩
 case round =>
  obtain⟨j,us,hjl,huj,rfl,htold,hr,hx⟩:=hrel
  clear hst hj0
  have he1:Hid (Env wr):=he.out.ext hx.out
  by_cases hlt:j<l.length
  ·obtain ⟨m,hm⟩:∃ m,l.drop j=m:=⟨_,rfl⟩
   obtain⟨n,hn⟩:∃ n,sz m=n:=⟨_,rfl⟩
   obtain⟨q,hq⟩:∃ q,kd m=q:=⟨_,rfl⟩
   obtain⟨t,ht⟩:∃ t,m.take n=t:=⟨_,rfl⟩
   rcases Nat.eq_zero_or_pos n with h0 | hpos
   ·have h1:=htold.out.bad hlt (by rw [hm,hn,h0])
    have h2:=hlex.out
    rw [h1] at h2
    obtain rfl:j=P:=by simpa using (Prod.mk.inj h2).2
    subst h0
    clear h1 h2 ht
    replace hm:=hid hm
    replace hn:=hid hn
    replace hq:=hid hq
    go_wp2_with fail
    refine (next_no l m j _ hm.out hn.out hl hjl).mono ?_
    rintro e w2 ⟨rfl,hx1⟩
    replace hx:Hid (Ext w w2):=hx.out.trans hx1
    clear hx1
    go_wp2
    exact⟨rfl,rfl,hx.out⟩
   obtain⟨hle,hnew⟩:=htold.out.step hlt (by rw [hm];exact hn) hpos
   obtain⟨J,hJ⟩:∃ J,j+n+wh false (l.drop (j+n))=J:=⟨_,rfl⟩
   rw [hm,hJ,hq,ht] at hnew
   obtain⟨K,hK⟩:∃ K,j+n=K:=⟨_,rfl⟩
   rw [hK] at hJ hle
   have htl:t.length=n:=by rw [←ht,List.length_take];have:=sz_le m;omega
   have hsum:(j:Int)+(n:Int)=(K:Int):=by omega
   replace hm:=hid hm
   replace hn:=hid hn
   replace hq:=hid hq
   replace ht:=hid ht
   replace hJ:=hid hJ
   replace hK:=hid hK
   replace hnew:=hid hnew
   go_wp2_with fail
   refine (next_ok l m t j n q _ hm.out hn.out hq.out hpos ht.out hl hjl).mono ?_
   rintro e w2 ⟨rfl,hx1⟩
   replace hr:Hid (Own _ w2 _ us):=hr.out.ext hx1
   replace hx:Hid (Ext w w2):=hx.out.trans hx1
   replace he1:Hid (Env w2):=he1.out.ext hx1
   clear hx1
   have hsz:=hx.out.size
   have hown:=hr.out.row.lt
   replace hown:=hid hown
   go_wp2_with (at_builtin;refine wpList_append_own _ rfl (.tmp 15) (.tmp 17) 53 rfl w.heap.size 64 i0 (.agg #[.int .i64 0,.int .i64 0,.string ⟨#[]⟩]) 3 32 Tryz.underlying53 hi hz0 hz1 hz2 rfl (by decide) _ _ _ rfl ((hr.out.row.alloc _).alloc _) ⟨w2.heap.size+1,0,none⟩ 1 1 (cellT ⟨q,j,t⟩) rfl rfl ?c1 ?c2 ?c3 ?c4 ?c5 ?_)
   case c1 =>
    intro p u hp
    match p,hp with
    | 0,hp=>simp [cellT] at hp;subst hp;simp [Addr.add,go_sem]
    | 1,hp=>simp [cellT] at hp;subst hp;simp [Addr.add,go_sem]
    | 2,hp=>simp [cellT] at hp;subst hp;simp [Addr.add,go_sem]
    | p+3,hp=>simp [cellT] at hp
   case c2=>intro u hu;simp [cellT] at hu;rcases hu with rfl | rfl | rfl <;> rfl
   case c3=>unfold maxLen;omega
   case c4=>omega
   case c5=>simp;omega
   intro v' w3 hown' hgrow _
   have hx3:Hid (Ext w w3):=⟨(((hx.out.alloc _ _).alloc _ _).below).grown hgrow (by simp;omega) (own_lo hr.out.row)⟩
   have hr3:Hid (Own w.heap.size w3 v' (us++[⟨q,j,t⟩])):=Own.snoc hown'
   have hc:w3.cell? ⟨w2.heap.size,2,none⟩=some (.string ⟨t.toArray⟩):=by
    refine hgrow.cell (a:=⟨w2.heap.size,2,none⟩) (by simp [go_sem]) ?_
    intro e
    exact absurd (hown.out _ e.symm).2 (Nat.lt_irrefl _)
   have he3:Hid (Env w3):=he.out.ext hx3.out
   clear hown' hgrow hr hx he1 hown
   go_wp2_with fail
   refine (pass_x l K J hJ.out _ hl hle he3).mono ?_
   rintro e w4 ⟨rfl,hx1⟩
   have hx4:Hid (Ext w w4):=hx3.out.trans hx1
   have hr4:Hid (Own w.heap.size w4 v' (us++[⟨q,j,t⟩])):=hr3.out.ext hx1
   clear hx1 hr3 hx3 he3 hc
   go_wp2
   go_roundw
   case rel=>exact ⟨J,us++[⟨q,j,t⟩],hnew.out.le,hnew.out.few,rfl,hnew,hr4,hx4⟩
   case measure=>have:=hJ.out;have:=hK.out;have:=hnew.out.le;simp [RowKit.intOf];omega
  ·exfalso
   have hf:=htold.out.fin hlt
   have h:=hlex.out
   rw [hf] at h
   simp at h
theorem wpAnyS_three {P:Program}{ops:Array Oper}{Q:Exit→Act→List Frame→World→Prop}{md:Region.Mode}{a:Act}{cs:List Frame}{w:World}{i j k:Nat}{fuel:Nat}{listed:Array Bool}(hr:Region.ready md ops listed = [i,j,k])
  (h1:wpOpS P ops Q i (wpAnyS P md ops Q fuel (listed.setIfInBounds i true)) a cs w)
  (h2:wpOpS P ops Q j (wpAnyS P md ops Q fuel (listed.setIfInBounds j true)) a cs w)
  (h3:wpOpS P ops Q k (wpAnyS P md ops Q fuel (listed.setIfInBounds k true)) a cs w):wpAnyS P md ops Q (fuel+1) listed a cs w :=
 wpAnyS_all hr (by simp) (by simpa using ⟨h1,h2,h3⟩)
def Slc1 (v:Value):Prop:=∃ ao n c,v=.slice ao n c
theorem need_ok (c:Int)(w:World) :
  Calls Tryz.prog 46 #[.bool true,.int .i64 c] w fun e w'=>e=.returned (.tuple #[])∧w'=w:=by
 go_enter Tryz.func46,Tryz.ntmps46
 go_wp2
 go_end0
 exact⟨rfl,rfl⟩
theorem need_no (c:Int)(w:World) :
  Calls Tryz.prog 46 #[.bool false,.int .i64 c] w fun e w'=>e=.panicked [{ v:=.iface 28 (.int .i64 c),recovered:=false }]∧w'=w:=by
 go_enter Tryz.func46,Tryz.ntmps46
 go_wp2
 exact⟨rfl,rfl,rfl⟩
theorem assert_errno (W:World)(x:Value):(Instr.typeAssert (.iface 28 x) 20 28 true).run Tryz.prog W=.ok (.tuple #[x,.bool true]) W:=by kernel_rfl
theorem assert_other (W:World)(x:Value):(Instr.typeAssert (.iface 87 x) 20 28 true).run Tryz.prog W=.ok (.tuple #[.int .i64 0,.bool false]) W:=by kernel_rfl
theorem assert_placed (W:World)(x:Value):(Instr.typeAssert (.iface 87 x) 20 87 true).run Tryz.prog W=.ok (.tuple #[x,.bool true]) W:=by kernel_rfl
theorem settleAt_nil (v:Value)(w:World) :
  Calls Tryz.prog 45 #[.nilIface,v] w fun e w'=>e=.returned (.tuple #[v,.int .i64 0,.int .i64 0])∧Ext w w':=by
 go_enter Tryz.func45,Tryz.ntmps45
 go_wp2
 exact bodyPost_ret (v:=.tuple #[v,.int .i64 0,.int .i64 0]) (by simp [results,Tryz.results45,go_sem]) rfl ⟨rfl,Ext.refl _⟩
theorem settleAt_errno (c:Int)(v:Value)(w:World) :
  Calls Tryz.prog 45 #[.iface 28 (.int .i64 c),v] w fun e w'=>e=.returned (.tuple #[.slice none 0 0,.int .i64 0,.int .i64 c])∧Ext w w':=by
 have hta:=assert_errno
 go_enter Tryz.func45,Tryz.ntmps45
 go_wp2
 exact bodyPost_ret (v:=.tuple #[.slice none 0 0,.int .i64 0,.int .i64 c]) (by simp [results,Tryz.results45,go_sem]) rfl ⟨rfl,Ext.refl _⟩
theorem settleAt_placed (c k:Int)(v:Value)(w:World) :
  Calls Tryz.prog 45 #[.iface 87 (.agg #[.int .i64 c,.int .i64 k]),v] w fun e w'=>e=.returned (.tuple #[.slice none 0 0,.int .i64 k,.int .i64 c])∧Ext w w':=by
 have hta:=assert_placed
 have htb:=assert_other
 go_enter Tryz.func45,Tryz.ntmps45
 go_wp2
 go_quiet (fail)
 go_wp2
 exact bodyPost_ret (v:=.tuple #[.slice none 0 0,.int .i64 k,.int .i64 c]) (by simp [results,Tryz.results45,go_sem]) rfl ⟨rfl,by first | exact ((Ext.refl w).alloc _ _).drewN _ | exact ((Ext.refl w).alloc _ _).drew⟩
theorem all_idle (b:Nat)(V:Value)(y z:Int)(w:World)(hp:w.cell? ⟨b,0,none⟩=some V)(h1:Slc1 V)(hq:w.cell? ⟨b+1,0,none⟩=some (.int .i64 y))(hr:w.cell? ⟨b+2,0,none⟩=some (.int .i64 z))(hpz:w.frozen? ⟨b,0,none⟩=false)(hqz:w.frozen? ⟨b+1,0,none⟩=false)(hrz:w.frozen? ⟨b+2,0,none⟩=false) :
  CallsD Tryz.prog 44 #[.pointer (some ⟨b,0,none⟩),.pointer (some ⟨b+1,0,none⟩),.pointer (some ⟨b+2,0,none⟩)] .returning w fun e u' w'=>e=.returned (.tuple #[])∧u'=.returning∧∃ w1,Ext w w1∧w'=(((w1.setCell ⟨b,0,none⟩ V).setCell ⟨b+1,0,none⟩ (.int .i64 0)).setCell ⟨b+2,0,none⟩ (.int .i64 0)):=by
 obtain⟨ao,n,m,rfl⟩:=h1
 have hb0:=lt_of_cell hp
 have hb1:=lt_of_cell hq
 have hb2:=lt_of_cell hr
 refine callsD_of_wpS Tryz.func44 rfl fun c₀ cs hu=>?_
 refine wpS_region_any 10 rfl (by kernel_rfl) ?_
 refine s2 0 1 ?a ?b
 case' a =>
  simp [wpOpS,go_sem,recoverD,hu,Tryz.ntmps44]
  refine s1 1 ?_
  simp [wpOpS,go_sem,hp]
  refine s1 2 ?_
  simp [wpOpS,go_sem]
 case' b =>
  simp [wpOpS,go_sem,hp,Tryz.ntmps44]
  refine s1 0 ?_
  simp [wpOpS,go_sem,recoverD,hu]
  refine s1 2 ?_
  simp [wpOpS,go_sem]
 all_goals
  refine (settleAt_nil _ _).mono ?_
  rintro e w1 ⟨rfl,hx⟩
  have gp:w1.cell? ⟨b,0,none⟩=some (.slice ao n m):=by rw [hx.cell b 0 (by simpa using hb0)];simpa using hp
  have gq:w1.cell? ⟨b+1,0,none⟩=some (.int .i64 y):=by rw [hx.cell (b+1) 0 (by simpa using hb1)];simpa using hq
  have gr:w1.cell? ⟨b+2,0,none⟩=some (.int .i64 z):=by rw [hx.cell (b+2) 0 (by simpa using hb2)];simpa using hr
  have gpz:w1.frozen? ⟨b,0,none⟩=false:=by rw [hx.froz b 0 (by simpa using hb0)];simpa using hpz
  have gqz:w1.frozen? ⟨b+1,0,none⟩=false:=by rw [hx.froz (b+1) 0 (by simpa using hb1)];simpa using hqz
  have grz:w1.frozen? ⟨b+2,0,none⟩=false:=by rw [hx.froz (b+2) 0 (by simpa using hb2)];simpa using hrz
  refine s1 3 ?_
  simp [wpOpS,go_sem]
  refine s3 4 5 6 ?_ ?_ ?_
  ·simp [wpOpS,go_sem]
   refine s3 5 6 7 ?_ ?_ ?_
   ·simp [wpOpS,go_sem]
    refine s2 6 7 ?_ ?_
    ·simp [wpOpS,go_sem]
     refine s1 7 ?_
     simp [wpOpS,go_sem,gp,gpz]
     refine s1 8 ?_
     simp [wpOpS,go_sem,gq,gqz]
     refine s1 9 ?_
     simp [wpOpS,go_sem,gr,grz]
     refine s0 ?_
     exact⟨rfl,.returning,by rw [←hu],.tuple #[],results_none (by rfl) _ _ _,rfl,rfl,w1,(Ext.refl w).drew.trans hx,rfl⟩
    ·simp [wpOpS,go_sem,gp,gpz]
     refine s2 6 8 ?_ ?_
     ·simp [wpOpS,go_sem]
      refine s1 8 ?_
      simp [wpOpS,go_sem,gq,gqz]
      refine s1 9 ?_
      simp [wpOpS,go_sem,gr,grz]
      refine s0 ?_
      exact⟨rfl,.returning,by rw [←hu],.tuple #[],results_none (by rfl) _ _ _,rfl,rfl,w1,(Ext.refl w).drew.trans hx,rfl⟩
     ·simp [wpOpS,go_sem,gq,gqz]
      refine s1 6 ?_
      simp [wpOpS,go_sem]
      refine s1 9 ?_
      simp [wpOpS,go_sem,gr,grz]
      refine s0 ?_
      exact⟨rfl,.returning,by rw [←hu],.tuple #[],results_none (by rfl) _ _ _,rfl,rfl,w1,(Ext.refl w).drew.trans hx,rfl⟩
   ·simp [wpOpS,go_sem]
    refine s2 5 7 ?_ ?_
    ·simp [wpOpS,go_sem]
     refine s1 7 ?_
     simp [wpOpS,go_sem,gp,gpz]
     refine s1 8 ?_
     simp [wpOpS,go_sem,gq,gqz]
     refine s1 9 ?_
     simp [wpOpS,go_sem,gr,grz]
     refine s0 ?_
     exact⟨rfl,.returning,by rw [←hu],.tuple #[],results_none (by rfl) _ _ _,rfl,rfl,w1,(Ext.refl w).drew.trans hx,rfl⟩
    ·simp [wpOpS,go_sem,gp,gpz]
     refine s1 5 ?_
     simp [wpOpS,go_sem]
     refine s1 8 ?_
     simp [wpOpS,go_sem,gq,gqz]
     refine s1 9 ?_
     simp [wpOpS,go_sem,gr,grz]
     refine s0 ?_
     exact⟨rfl,.returning,by rw [←hu],.tuple #[],results_none (by rfl) _ _ _,rfl,rfl,w1,(Ext.refl w).drew.trans hx,rfl⟩
   ·simp [wpOpS,go_sem,gp,gpz]
    refine s2 5 6 ?_ ?_
    ·simp [wpOpS,go_sem]
     refine s2 6 8 ?_ ?_
     ·simp [wpOpS,go_sem]
      refine s1 8 ?_
      simp [wpOpS,go_sem,gq,gqz]
      refine s1 9 ?_
      simp [wpOpS,go_sem,gr,grz]
      refine s0 ?_
      exact⟨rfl,.returning,by rw [←hu],.tuple #[],results_none (by rfl) _ _ _,rfl,rfl,w1,(Ext.refl w).drew.trans hx,rfl⟩
     ·simp [wpOpS,go_sem,gq,gqz]
      refine s1 6 ?_
      simp [wpOpS,go_sem]
      refine s1 9 ?_
      simp [wpOpS,go_sem,gr,grz]
      refine s0 ?_
      exact⟨rfl,.returning,by rw [←hu],.tuple #[],results_none (by rfl) _ _ _,rfl,rfl,w1,(Ext.refl w).drew.trans hx,rfl⟩
    ·simp [wpOpS,go_sem]
     refine s1 5 ?_
     simp [wpOpS,go_sem]
     refine s1 8 ?_
     simp [wpOpS,go_sem,gq,gqz]
     refine s1 9 ?_
     simp [wpOpS,go_sem,gr,grz]
     refine s0 ?_
     exact⟨rfl,.returning,by rw [←hu],.tuple #[],results_none (by rfl) _ _ _,rfl,rfl,w1,(Ext.refl w).drew.trans hx,rfl⟩
  ·simp [wpOpS,go_sem]
   refine s2 4 6 ?_ ?_
   ·simp [wpOpS,go_sem]
    refine s2 6 7 ?_ ?_
    ·simp [wpOpS,go_sem]
     refine s1 7 ?_
     simp [wpOpS,go_sem,gp,gpz]
     refine s1 8 ?_
     simp [wpOpS,go_sem,gq,gqz]
     refine s1 9 ?_
     simp [wpOpS,go_sem,gr,grz]
     refine s0 ?_
     exact⟨rfl,.returning,by rw [←hu],.tuple #[],results_none (by rfl) _ _ _,rfl,rfl,w1,(Ext.refl w).drew.trans hx,rfl⟩
    ·simp [wpOpS,go_sem,gp,gpz]
     refine s2 6 8 ?_ ?_
     ·simp [wpOpS,go_sem]
      refine s1 8 ?_
      simp [wpOpS,go_sem,gq,gqz]
      refine s1 9 ?_
      simp [wpOpS,go_sem,gr,grz]
      refine s0 ?_
      exact⟨rfl,.returning,by rw [←hu],.tuple #[],results_none (by rfl) _ _ _,rfl,rfl,w1,(Ext.refl w).drew.trans hx,rfl⟩
     ·simp [wpOpS,go_sem,gq,gqz]
      refine s1 6 ?_
      simp [wpOpS,go_sem]
      refine s1 9 ?_
      simp [wpOpS,go_sem,gr,grz]
      refine s0 ?_
      exact⟨rfl,.returning,by rw [←hu],.tuple #[],results_none (by rfl) _ _ _,rfl,rfl,w1,(Ext.refl w).drew.trans hx,rfl⟩
   ·simp [wpOpS,go_sem]
    refine s1 4 ?_
    simp [wpOpS,go_sem]
    refine s1 7 ?_
    simp [wpOpS,go_sem,gp,gpz]
    refine s1 8 ?_
    simp [wpOpS,go_sem,gq,gqz]
    refine s1 9 ?_
    simp [wpOpS,go_sem,gr,grz]
    refine s0 ?_
    exact⟨rfl,.returning,by rw [←hu],.tuple #[],results_none (by rfl) _ _ _,rfl,rfl,w1,(Ext.refl w).drew.trans hx,rfl⟩
  ·simp [wpOpS,go_sem]
   refine s2 4 5 ?_ ?_
   ·simp [wpOpS,go_sem]
    refine s2 5 7 ?_ ?_
    ·simp [wpOpS,go_sem]
     refine s1 7 ?_
     simp [wpOpS,go_sem,gp,gpz]
     refine s1 8 ?_
     simp [wpOpS,go_sem,gq,gqz]
     refine s1 9 ?_
     simp [wpOpS,go_sem,gr,grz]
     refine s0 ?_
     exact⟨rfl,.returning,by rw [←hu],.tuple #[],results_none (by rfl) _ _ _,rfl,rfl,w1,(Ext.refl w).drew.trans hx,rfl⟩
    ·simp [wpOpS,go_sem,gp,gpz]
     refine s1 5 ?_
     simp [wpOpS,go_sem]
     refine s1 8 ?_
     simp [wpOpS,go_sem,gq,gqz]
     refine s1 9 ?_
     simp [wpOpS,go_sem,gr,grz]
     refine s0 ?_
     exact⟨rfl,.returning,by rw [←hu],.tuple #[],results_none (by rfl) _ _ _,rfl,rfl,w1,(Ext.refl w).drew.trans hx,rfl⟩
   ·simp [wpOpS,go_sem]
    refine s1 4 ?_
    simp [wpOpS,go_sem]
    refine s1 7 ?_
    simp [wpOpS,go_sem,gp,gpz]
    refine s1 8 ?_
    simp [wpOpS,go_sem,gq,gqz]
    refine s1 9 ?_
    simp [wpOpS,go_sem,gr,grz]
    refine s0 ?_
    exact⟨rfl,.returning,by rw [←hu],.tuple #[],results_none (by rfl) _ _ _,rfl,rfl,w1,(Ext.refl w).drew.trans hx,rfl⟩
theorem all_placed (b:Nat)(V:Value)(c k:Int)(older:List PanicEntry)(y z:Int)(w:World)(hp:w.cell? ⟨b,0,none⟩=some V)(h1:Slc1 V)(hq:w.cell? ⟨b+1,0,none⟩=some (.int .i64 y))(hr:w.cell? ⟨b+2,0,none⟩=some (.int .i64 z))(hpz:w.frozen? ⟨b,0,none⟩=false)(hqz:w.frozen? ⟨b+1,0,none⟩=false)(hrz:w.frozen? ⟨b+2,0,none⟩=false) :
  CallsD Tryz.prog 44 #[.pointer (some ⟨b,0,none⟩),.pointer (some ⟨b+1,0,none⟩),.pointer (some ⟨b+2,0,none⟩)] (.panicking ({ v:=.iface 87 (.agg #[.int .i64 c,.int .i64 k]),recovered:=false }::older)) w fun e u' w'=>e=.returned (.tuple #[])∧u'=.panicking ({ v:=.iface 87 (.agg #[.int .i64 c,.int .i64 k]),recovered:=true }::older)∧∃ w1,Ext w w1∧w'=(((w1.setCell ⟨b,0,none⟩ (.slice none 0 0)).setCell ⟨b+1,0,none⟩ (.int .i64 k)).setCell ⟨b+2,0,none⟩ (.int .i64 c)):=by
 obtain⟨ao,n,m,rfl⟩:=h1
 have hb0:=lt_of_cell hp
 have hb1:=lt_of_cell hq
 have hb2:=lt_of_cell hr
 refine callsD_of_wpS Tryz.func44 rfl fun c₀ cs hu=>?_
 refine wpS_region_any 10 rfl (by kernel_rfl) ?_
 refine s2 0 1 ?a ?b
 case' a =>
  simp [wpOpS,go_sem,recoverD,hu,Tryz.ntmps44]
  refine s1 1 ?_
  simp [wpOpS,go_sem,hp]
  refine s1 2 ?_
  simp [wpOpS,go_sem]
 case' b =>
  simp [wpOpS,go_sem,hp,Tryz.ntmps44]
  refine s1 0 ?_
  simp [wpOpS,go_sem,recoverD,hu]
  refine s1 2 ?_
  simp [wpOpS,go_sem]
 all_goals
  refine (settleAt_placed _ _ _ _).mono ?_
  rintro e w1 ⟨rfl,hx⟩
  have gp:w1.cell? ⟨b,0,none⟩=some (.slice ao n m):=by rw [hx.cell b 0 (by simpa using hb0)];simpa using hp
  have gq:w1.cell? ⟨b+1,0,none⟩=some (.int .i64 y):=by rw [hx.cell (b+1) 0 (by simpa using hb1)];simpa using hq
  have gr:w1.cell? ⟨b+2,0,none⟩=some (.int .i64 z):=by rw [hx.cell (b+2) 0 (by simpa using hb2)];simpa using hr
  have gpz:w1.frozen? ⟨b,0,none⟩=false:=by rw [hx.froz b 0 (by simpa using hb0)];simpa using hpz
  have gqz:w1.frozen? ⟨b+1,0,none⟩=false:=by rw [hx.froz (b+1) 0 (by simpa using hb1)];simpa using hqz
  have grz:w1.frozen? ⟨b+2,0,none⟩=false:=by rw [hx.froz (b+2) 0 (by simpa using hb2)];simpa using hrz
  refine s1 3 ?_
  simp [wpOpS,go_sem]
  refine s3 4 5 6 ?_ ?_ ?_
  ·simp [wpOpS,go_sem]
   refine s3 5 6 7 ?_ ?_ ?_
   ·simp [wpOpS,go_sem]
    refine s2 6 7 ?_ ?_
    ·simp [wpOpS,go_sem]
     refine s1 7 ?_
     simp [wpOpS,go_sem,gp,gpz]
     refine s1 8 ?_
     simp [wpOpS,go_sem,gq,gqz]
     refine s1 9 ?_
     simp [wpOpS,go_sem,gr,grz]
     refine s0 ?_
     exact⟨rfl,_,rfl,.tuple #[],results_none (by rfl) _ _ _,rfl,rfl,w1,(Ext.refl w).drew.trans hx,rfl⟩
    ·simp [wpOpS,go_sem,gp,gpz]
     refine s2 6 8 ?_ ?_
     ·simp [wpOpS,go_sem]
      refine s1 8 ?_
      simp [wpOpS,go_sem,gq,gqz]
      refine s1 9 ?_
      simp [wpOpS,go_sem,gr,grz]
      refine s0 ?_
      exact⟨rfl,_,rfl,.tuple #[],results_none (by rfl) _ _ _,rfl,rfl,w1,(Ext.refl w).drew.trans hx,rfl⟩
     ·simp [wpOpS,go_sem,gq,gqz]
      refine s1 6 ?_
      simp [wpOpS,go_sem]
      refine s1 9 ?_
      simp [wpOpS,go_sem,gr,grz]
      refine s0 ?_
      exact⟨rfl,_,rfl,.tuple #[],results_none (by rfl) _ _ _,rfl,rfl,w1,(Ext.refl w).drew.trans hx,rfl⟩
   ·simp [wpOpS,go_sem]
    refine s2 5 7 ?_ ?_
    ·simp [wpOpS,go_sem]
     refine s1 7 ?_
     simp [wpOpS,go_sem,gp,gpz]
     refine s1 8 ?_
     simp [wpOpS,go_sem,gq,gqz]
     refine s1 9 ?_
     simp [wpOpS,go_sem,gr,grz]
     refine s0 ?_
     exact⟨rfl,_,rfl,.tuple #[],results_none (by rfl) _ _ _,rfl,rfl,w1,(Ext.refl w).drew.trans hx,rfl⟩
    ·simp [wpOpS,go_sem,gp,gpz]
     refine s1 5 ?_
     simp [wpOpS,go_sem]
     refine s1 8 ?_
     simp [wpOpS,go_sem,gq,gqz]
     refine s1 9 ?_
     simp [wpOpS,go_sem,gr,grz]
     refine s0 ?_
     exact⟨rfl,_,rfl,.tuple #[],results_none (by rfl) _ _ _,rfl,rfl,w1,(Ext.refl w).drew.trans hx,rfl⟩
   ·simp [wpOpS,go_sem,gp,gpz]
    refine s2 5 6 ?_ ?_
    ·simp [wpOpS,go_sem]
     refine s2 6 8 ?_ ?_
     ·simp [wpOpS,go_sem]
      refine s1 8 ?_
      simp [wpOpS,go_sem,gq,gqz]
      refine s1 9 ?_
      simp [wpOpS,go_sem,gr,grz]
      refine s0 ?_
      exact⟨rfl,_,rfl,.tuple #[],results_none (by rfl) _ _ _,rfl,rfl,w1,(Ext.refl w).drew.trans hx,rfl⟩
     ·simp [wpOpS,go_sem,gq,gqz]
      refine s1 6 ?_
      simp [wpOpS,go_sem]
      refine s1 9 ?_
      simp [wpOpS,go_sem,gr,grz]
      refine s0 ?_
      exact⟨rfl,_,rfl,.tuple #[],results_none (by rfl) _ _ _,rfl,rfl,w1,(Ext.refl w).drew.trans hx,rfl⟩
    ·simp [wpOpS,go_sem]
     refine s1 5 ?_
     simp [wpOpS,go_sem]
     refine s1 8 ?_
     simp [wpOpS,go_sem,gq,gqz]
     refine s1 9 ?_
     simp [wpOpS,go_sem,gr,grz]
     refine s0 ?_
     exact⟨rfl,_,rfl,.tuple #[],results_none (by rfl) _ _ _,rfl,rfl,w1,(Ext.refl w).drew.trans hx,rfl⟩
  ·simp [wpOpS,go_sem]
   refine s2 4 6 ?_ ?_
   ·simp [wpOpS,go_sem]
    refine s2 6 7 ?_ ?_
    ·simp [wpOpS,go_sem]
     refine s1 7 ?_
     simp [wpOpS,go_sem,gp,gpz]
     refine s1 8 ?_
     simp [wpOpS,go_sem,gq,gqz]
     refine s1 9 ?_
     simp [wpOpS,go_sem,gr,grz]
     refine s0 ?_
     exact⟨rfl,_,rfl,.tuple #[],results_none (by rfl) _ _ _,rfl,rfl,w1,(Ext.refl w).drew.trans hx,rfl⟩
    ·simp [wpOpS,go_sem,gp,gpz]
     refine s2 6 8 ?_ ?_
     ·simp [wpOpS,go_sem]
      refine s1 8 ?_
      simp [wpOpS,go_sem,gq,gqz]
      refine s1 9 ?_
      simp [wpOpS,go_sem,gr,grz]
      refine s0 ?_
      exact⟨rfl,_,rfl,.tuple #[],results_none (by rfl) _ _ _,rfl,rfl,w1,(Ext.refl w).drew.trans hx,rfl⟩
     ·simp [wpOpS,go_sem,gq,gqz]
      refine s1 6 ?_
      simp [wpOpS,go_sem]
      refine s1 9 ?_
      simp [wpOpS,go_sem,gr,grz]
      refine s0 ?_
      exact⟨rfl,_,rfl,.tuple #[],results_none (by rfl) _ _ _,rfl,rfl,w1,(Ext.refl w).drew.trans hx,rfl⟩
   ·simp [wpOpS,go_sem]
    refine s1 4 ?_
    simp [wpOpS,go_sem]
    refine s1 7 ?_
    simp [wpOpS,go_sem,gp,gpz]
    refine s1 8 ?_
    simp [wpOpS,go_sem,gq,gqz]
    refine s1 9 ?_
    simp [wpOpS,go_sem,gr,grz]
    refine s0 ?_
    exact⟨rfl,_,rfl,.tuple #[],results_none (by rfl) _ _ _,rfl,rfl,w1,(Ext.refl w).drew.trans hx,rfl⟩
  ·simp [wpOpS,go_sem]
   refine s2 4 5 ?_ ?_
   ·simp [wpOpS,go_sem]
    refine s2 5 7 ?_ ?_
    ·simp [wpOpS,go_sem]
     refine s1 7 ?_
     simp [wpOpS,go_sem,gp,gpz]
     refine s1 8 ?_
     simp [wpOpS,go_sem,gq,gqz]
     refine s1 9 ?_
     simp [wpOpS,go_sem,gr,grz]
     refine s0 ?_
     exact⟨rfl,_,rfl,.tuple #[],results_none (by rfl) _ _ _,rfl,rfl,w1,(Ext.refl w).drew.trans hx,rfl⟩
    ·simp [wpOpS,go_sem,gp,gpz]
     refine s1 5 ?_
     simp [wpOpS,go_sem]
     refine s1 8 ?_
     simp [wpOpS,go_sem,gq,gqz]
     refine s1 9 ?_
     simp [wpOpS,go_sem,gr,grz]
     refine s0 ?_
     exact⟨rfl,_,rfl,.tuple #[],results_none (by rfl) _ _ _,rfl,rfl,w1,(Ext.refl w).drew.trans hx,rfl⟩
   ·simp [wpOpS,go_sem]
    refine s1 4 ?_
    simp [wpOpS,go_sem]
    refine s1 7 ?_
    simp [wpOpS,go_sem,gp,gpz]
    refine s1 8 ?_
    simp [wpOpS,go_sem,gq,gqz]
    refine s1 9 ?_
    simp [wpOpS,go_sem,gr,grz]
    refine s0 ?_
    exact⟨rfl,_,rfl,.tuple #[],results_none (by rfl) _ _ _,rfl,rfl,w1,(Ext.refl w).drew.trans hx,rfl⟩
theorem all_errno (b:Nat)(V:Value)(c:Int)(older:List PanicEntry)(y z:Int)(w:World)(hp:w.cell? ⟨b,0,none⟩=some V)(h1:Slc1 V)(hq:w.cell? ⟨b+1,0,none⟩=some (.int .i64 y))(hr:w.cell? ⟨b+2,0,none⟩=some (.int .i64 z))(hpz:w.frozen? ⟨b,0,none⟩=false)(hqz:w.frozen? ⟨b+1,0,none⟩=false)(hrz:w.frozen? ⟨b+2,0,none⟩=false) :
  CallsD Tryz.prog 44 #[.pointer (some ⟨b,0,none⟩),.pointer (some ⟨b+1,0,none⟩),.pointer (some ⟨b+2,0,none⟩)] (.panicking ({ v:=.iface 28 (.int .i64 c),recovered:=false }::older)) w fun e u' w'=>e=.returned (.tuple #[])∧u'=.panicking ({ v:=.iface 28 (.int .i64 c),recovered:=true }::older)∧∃ w1,Ext w w1∧w'=(((w1.setCell ⟨b,0,none⟩ (.slice none 0 0)).setCell ⟨b+1,0,none⟩ (.int .i64 0)).setCell ⟨b+2,0,none⟩ (.int .i64 c)):=by
 obtain⟨ao,n,m,rfl⟩:=h1
 have hb0:=lt_of_cell hp
 have hb1:=lt_of_cell hq
 have hb2:=lt_of_cell hr
 refine callsD_of_wpS Tryz.func44 rfl fun c₀ cs hu=>?_
 refine wpS_region_any 10 rfl (by kernel_rfl) ?_
 refine s2 0 1 ?a ?b
 case' a =>
  simp [wpOpS,go_sem,recoverD,hu,Tryz.ntmps44]
  refine s1 1 ?_
  simp [wpOpS,go_sem,hp]
  refine s1 2 ?_
  simp [wpOpS,go_sem]
 case' b =>
  simp [wpOpS,go_sem,hp,Tryz.ntmps44]
  refine s1 0 ?_
  simp [wpOpS,go_sem,recoverD,hu]
  refine s1 2 ?_
  simp [wpOpS,go_sem]
 all_goals
  refine (settleAt_errno _ _ _).mono ?_
  rintro e w1 ⟨rfl,hx⟩
  have gp:w1.cell? ⟨b,0,none⟩=some (.slice ao n m):=by rw [hx.cell b 0 (by simpa using hb0)];simpa using hp
  have gq:w1.cell? ⟨b+1,0,none⟩=some (.int .i64 y):=by rw [hx.cell (b+1) 0 (by simpa using hb1)];simpa using hq
  have gr:w1.cell? ⟨b+2,0,none⟩=some (.int .i64 z):=by rw [hx.cell (b+2) 0 (by simpa using hb2)];simpa using hr
  have gpz:w1.frozen? ⟨b,0,none⟩=false:=by rw [hx.froz b 0 (by simpa using hb0)];simpa using hpz
  have gqz:w1.frozen? ⟨b+1,0,none⟩=false:=by rw [hx.froz (b+1) 0 (by simpa using hb1)];simpa using hqz
  have grz:w1.frozen? ⟨b+2,0,none⟩=false:=by rw [hx.froz (b+2) 0 (by simpa using hb2)];simpa using hrz
  refine s1 3 ?_
  simp [wpOpS,go_sem]
  refine s3 4 5 6 ?_ ?_ ?_
  ·simp [wpOpS,go_sem]
   refine s3 5 6 7 ?_ ?_ ?_
   ·simp [wpOpS,go_sem]
    refine s2 6 7 ?_ ?_
    ·simp [wpOpS,go_sem]
     refine s1 7 ?_
     simp [wpOpS,go_sem,gp,gpz]
     refine s1 8 ?_
     simp [wpOpS,go_sem,gq,gqz]
     refine s1 9 ?_
     simp [wpOpS,go_sem,gr,grz]
     refine s0 ?_
     exact⟨rfl,_,rfl,.tuple #[],results_none (by rfl) _ _ _,rfl,rfl,w1,(Ext.refl w).drew.trans hx,rfl⟩
    ·simp [wpOpS,go_sem,gp,gpz]
     refine s2 6 8 ?_ ?_
     ·simp [wpOpS,go_sem]
      refine s1 8 ?_
      simp [wpOpS,go_sem,gq,gqz]
      refine s1 9 ?_
      simp [wpOpS,go_sem,gr,grz]
      refine s0 ?_
      exact⟨rfl,_,rfl,.tuple #[],results_none (by rfl) _ _ _,rfl,rfl,w1,(Ext.refl w).drew.trans hx,rfl⟩
     ·simp [wpOpS,go_sem,gq,gqz]
      refine s1 6 ?_
      simp [wpOpS,go_sem]
      refine s1 9 ?_
      simp [wpOpS,go_sem,gr,grz]
      refine s0 ?_
      exact⟨rfl,_,rfl,.tuple #[],results_none (by rfl) _ _ _,rfl,rfl,w1,(Ext.refl w).drew.trans hx,rfl⟩
   ·simp [wpOpS,go_sem]
    refine s2 5 7 ?_ ?_
    ·simp [wpOpS,go_sem]
     refine s1 7 ?_
     simp [wpOpS,go_sem,gp,gpz]
     refine s1 8 ?_
     simp [wpOpS,go_sem,gq,gqz]
     refine s1 9 ?_
     simp [wpOpS,go_sem,gr,grz]
     refine s0 ?_
     exact⟨rfl,_,rfl,.tuple #[],results_none (by rfl) _ _ _,rfl,rfl,w1,(Ext.refl w).drew.trans hx,rfl⟩
    ·simp [wpOpS,go_sem,gp,gpz]
     refine s1 5 ?_
     simp [wpOpS,go_sem]
     refine s1 8 ?_
     simp [wpOpS,go_sem,gq,gqz]
     refine s1 9 ?_
     simp [wpOpS,go_sem,gr,grz]
     refine s0 ?_
     exact⟨rfl,_,rfl,.tuple #[],results_none (by rfl) _ _ _,rfl,rfl,w1,(Ext.refl w).drew.trans hx,rfl⟩
   ·simp [wpOpS,go_sem,gp,gpz]
    refine s2 5 6 ?_ ?_
    ·simp [wpOpS,go_sem]
     refine s2 6 8 ?_ ?_
     ·simp [wpOpS,go_sem]
      refine s1 8 ?_
      simp [wpOpS,go_sem,gq,gqz]
      refine s1 9 ?_
      simp [wpOpS,go_sem,gr,grz]
      refine s0 ?_
      exact⟨rfl,_,rfl,.tuple #[],results_none (by rfl) _ _ _,rfl,rfl,w1,(Ext.refl w).drew.trans hx,rfl⟩
     ·simp [wpOpS,go_sem,gq,gqz]
      refine s1 6 ?_
      simp [wpOpS,go_sem]
      refine s1 9 ?_
      simp [wpOpS,go_sem,gr,grz]
      refine s0 ?_
      exact⟨rfl,_,rfl,.tuple #[],results_none (by rfl) _ _ _,rfl,rfl,w1,(Ext.refl w).drew.trans hx,rfl⟩
    ·simp [wpOpS,go_sem]
     refine s1 5 ?_
     simp [wpOpS,go_sem]
     refine s1 8 ?_
     simp [wpOpS,go_sem,gq,gqz]
     refine s1 9 ?_
     simp [wpOpS,go_sem,gr,grz]
     refine s0 ?_
     exact⟨rfl,_,rfl,.tuple #[],results_none (by rfl) _ _ _,rfl,rfl,w1,(Ext.refl w).drew.trans hx,rfl⟩
  ·simp [wpOpS,go_sem]
   refine s2 4 6 ?_ ?_
   ·simp [wpOpS,go_sem]
    refine s2 6 7 ?_ ?_
    ·simp [wpOpS,go_sem]
     refine s1 7 ?_
     simp [wpOpS,go_sem,gp,gpz]
     refine s1 8 ?_
     simp [wpOpS,go_sem,gq,gqz]
     refine s1 9 ?_
     simp [wpOpS,go_sem,gr,grz]
     refine s0 ?_
     exact⟨rfl,_,rfl,.tuple #[],results_none (by rfl) _ _ _,rfl,rfl,w1,(Ext.refl w).drew.trans hx,rfl⟩
    ·simp [wpOpS,go_sem,gp,gpz]
     refine s2 6 8 ?_ ?_
     ·simp [wpOpS,go_sem]
      refine s1 8 ?_
      simp [wpOpS,go_sem,gq,gqz]
      refine s1 9 ?_
      simp [wpOpS,go_sem,gr,grz]
      refine s0 ?_
      exact⟨rfl,_,rfl,.tuple #[],results_none (by rfl) _ _ _,rfl,rfl,w1,(Ext.refl w).drew.trans hx,rfl⟩
     ·simp [wpOpS,go_sem,gq,gqz]
      refine s1 6 ?_
      simp [wpOpS,go_sem]
      refine s1 9 ?_
      simp [wpOpS,go_sem,gr,grz]
      refine s0 ?_
      exact⟨rfl,_,rfl,.tuple #[],results_none (by rfl) _ _ _,rfl,rfl,w1,(Ext.refl w).drew.trans hx,rfl⟩
   ·simp [wpOpS,go_sem]
    refine s1 4 ?_
    simp [wpOpS,go_sem]
    refine s1 7 ?_
    simp [wpOpS,go_sem,gp,gpz]
    refine s1 8 ?_
    simp [wpOpS,go_sem,gq,gqz]
    refine s1 9 ?_
    simp [wpOpS,go_sem,gr,grz]
    refine s0 ?_
    exact⟨rfl,_,rfl,.tuple #[],results_none (by rfl) _ _ _,rfl,rfl,w1,(Ext.refl w).drew.trans hx,rfl⟩
  ·simp [wpOpS,go_sem]
   refine s2 4 5 ?_ ?_
   ·simp [wpOpS,go_sem]
    refine s2 5 7 ?_ ?_
    ·simp [wpOpS,go_sem]
     refine s1 7 ?_
     simp [wpOpS,go_sem,gp,gpz]
     refine s1 8 ?_
     simp [wpOpS,go_sem,gq,gqz]
     refine s1 9 ?_
     simp [wpOpS,go_sem,gr,grz]
     refine s0 ?_
     exact⟨rfl,_,rfl,.tuple #[],results_none (by rfl) _ _ _,rfl,rfl,w1,(Ext.refl w).drew.trans hx,rfl⟩
    ·simp [wpOpS,go_sem,gp,gpz]
     refine s1 5 ?_
     simp [wpOpS,go_sem]
     refine s1 8 ?_
     simp [wpOpS,go_sem,gq,gqz]
     refine s1 9 ?_
     simp [wpOpS,go_sem,gr,grz]
     refine s0 ?_
     exact⟨rfl,_,rfl,.tuple #[],results_none (by rfl) _ _ _,rfl,rfl,w1,(Ext.refl w).drew.trans hx,rfl⟩
   ·simp [wpOpS,go_sem]
    refine s1 4 ?_
    simp [wpOpS,go_sem]
    refine s1 7 ?_
    simp [wpOpS,go_sem,gp,gpz]
    refine s1 8 ?_
    simp [wpOpS,go_sem,gq,gqz]
    refine s1 9 ?_
    simp [wpOpS,go_sem,gr,grz]
    refine s0 ?_
    exact⟨rfl,_,rfl,.tuple #[],results_none (by rfl) _ _ _,rfl,rfl,w1,(Ext.refl w).drew.trans hx,rfl⟩
theorem make_func (fn:Fn)(first cap:Array Value)(w:World):(Instr.makeFunc fn first cap).run Tryz.prog w=.ok (.func fn first cap) w:=rfl
def dfr (Z:Nat):List Deferred:=[{ target:=.fn (.func 44) #[.pointer (some ⟨Z,0,none⟩),.pointer (some ⟨Z+1,0,none⟩),.pointer (some ⟨Z+2,0,none⟩)],args:=#[] }]
structure Fac (w W:World)(V:Value)(y z:Int):Prop where
 p:W.cell? ⟨w.heap.size,0,none⟩=some V
 q:W.cell? ⟨w.heap.size+1,0,none⟩=some (.int .i64 y)
 r:W.cell? ⟨w.heap.size+2,0,none⟩=some (.int .i64 z)
 pz:W.frozen? ⟨w.heap.size,0,none⟩=false
 qz:W.frozen? ⟨w.heap.size+1,0,none⟩=false
 rz:W.frozen? ⟨w.heap.size+2,0,none⟩=false
 ext:Ext w W
theorem Fac.begin (w:World)(t s r:TypeId):Fac w (((w.alloc (.cells #[.slice none 0 0] t)).alloc (.cells #[.int .i64 0] s)).alloc (.cells #[.int .i64 0] r)) (.slice none 0 0) 0 0 :=
 ⟨by simp [go_sem],by simp [go_sem],by simp [go_sem],by simp [go_sem],by simp [go_sem],by simp [go_sem],(((Ext.refl w).alloc _ _).alloc _ _).alloc _ _⟩
theorem Fac.on {w W W':World}{V:Value}{y z:Int}(h:Fac w W V y z)(hx:Ext W W'):Fac w W' V y z :=
 ⟨hx.cell_of h.p,hx.cell_of h.q,hx.cell_of h.r,by rw [hx.froz _ _ (lt_of_cell h.p)];exact h.pz,by rw [hx.froz _ _ (lt_of_cell h.q)];exact h.qz,by rw [hx.froz _ _ (lt_of_cell h.r)];exact h.rz,h.ext.trans hx⟩
theorem Fac.set1 {w W:World}{V:Value}{y z:Int}(h:Fac w W V y z)(x:Value):Fac w (W.setCell ⟨w.heap.size,0,none⟩ x) x y z :=
 ⟨same h.p,by rw [other _ (Or.inl (by omega))];exact h.q,by rw [other _ (Or.inl (by omega))];exact h.r,by simp [go_sem,h.pz],by simp [go_sem,h.qz],by simp [go_sem,h.rz],h.ext.setCell (Nat.le_refl _) _⟩
theorem Fac.set2 {w W:World}{V:Value}{y z:Int}(h:Fac w W V y z)(x:Int):Fac w (W.setCell ⟨w.heap.size+1,0,none⟩ (.int .i64 x)) V x z :=
 ⟨by rw [other _ (Or.inl (by omega))];exact h.p,same h.q,by rw [other _ (Or.inl (by omega))];exact h.r,by simp [go_sem,h.pz],by simp [go_sem,h.qz],by simp [go_sem,h.rz],h.ext.setCell (by show w.heap.size≤w.heap.size+1;omega) _⟩
theorem Fac.set3 {w W:World}{V:Value}{y z:Int}(h:Fac w W V y z)(x:Int):Fac w (W.setCell ⟨w.heap.size+2,0,none⟩ (.int .i64 x)) V y x :=
 ⟨by rw [other _ (Or.inl (by omega))];exact h.p,by rw [other _ (Or.inl (by omega))];exact h.q,same h.r,by simp [go_sem,h.pz],by simp [go_sem,h.qz],by simp [go_sem,h.rz],h.ext.setCell (by show w.heap.size≤w.heap.size+2;omega) _⟩
theorem Own.set {B:Nat}{w:World}{v:Value}{ts:List Tok}(h:Own B w v ts){b:Nat}(hb:b<B)(x:Value):Own B (w.setCell ⟨b,0,none⟩ x) v ts :=
 ⟨ownsRow_setCell_below h.row (a:=⟨b,0,none⟩) hb x⟩
theorem Own.mono {A B:Nat}{w:World}{v:Value}{ts:List Tok}(h:Own B w v ts)(hb:A≤B):Own A w v ts:=by
 refine⟨h.row.1,?_⟩
 rcases h.row.2 with h0 | ⟨g,c,cur,h1,h2,h3⟩
 ·exact Or.inl h0
 ·exact Or.inr ⟨g,c,cur,h1,Nat.le_trans hb h2,h3⟩
theorem Own.slc {B:Nat}{w:World}{v:Value}{ts:List Tok}(h:Own B w v ts):Slc1 v:=by
 rcases h.row.2 with ⟨rfl,_⟩ | ⟨g,c,cur,rfl,_⟩
 ·exact ⟨_,_,_,rfl⟩
 ·exact ⟨_,_,_,rfl⟩
theorem all_leave_idle (w W:World)(tm:Array Value)(V:Value)(y z:Int)(B:Nat)(ts:List Tok)(h1:tm[2]?=some (.pointer (some ⟨w.heap.size,0,none⟩)))(h2:tm[3]?=some (.pointer (some ⟨w.heap.size+1,0,none⟩)))(h3:tm[4]?=some (.pointer (some ⟨w.heap.size+2,0,none⟩)))(hf:Fac w W V y z)(ho:Own B W V ts)(hB:w.heap.size+2<B) :
  Leaves Tryz.prog Tryz.f20 tm (fun e w'=>(∃ v,e=.returned (.tuple #[v,.int .i64 0,.int .i64 0])∧Own w.heap.size w' v ts)∧Ext w w') (dfr w.heap.size) .returning W:=by
 refine leaves_cons (f:=44) (args:=#[.pointer (some ⟨w.heap.size,0,none⟩),.pointer (some ⟨w.heap.size+1,0,none⟩),.pointer (some ⟨w.heap.size+2,0,none⟩)]) (by simp) (by simp [go_sem]) ?_
 refine (all_idle w.heap.size V y z _ hf.p ho.slc hf.q hf.r hf.pz hf.qz hf.rz).mono ?_
 rintro e u' w'' ⟨rfl,rfl,w2,hy,rfl⟩
 have hg:=(((hf.on hy).set1 V).set2 0).set3 0
 have ho2:Own B (((w2.setCell ⟨w.heap.size,0,none⟩ V).setCell ⟨w.heap.size+1,0,none⟩ (.int .i64 0)).setCell ⟨w.heap.size+2,0,none⟩ (.int .i64 0)) V ts:=(((ho.ext hy).set (by omega) _).set (by omega) _).set hB _
 generalize ((w2.setCell ⟨w.heap.size,0,none⟩ V).setCell ⟨w.heap.size+1,0,none⟩ (.int .i64 0)).setCell ⟨w.heap.size+2,0,none⟩ (.int .i64 0)=Wf at *
 obtain⟨ao,n,c,rfl⟩:=ho.slc
 simp [Leaves,settle,results,Tryz.results20,go_sem,h1,h2,h3,hg.p,hg.q,hg.r]
 exact⟨ho2.mono (by omega),hg.ext⟩
theorem all_leave_placed (w W:World)(tm:Array Value)(V:Value)(c k:Int)(y z:Int)(hs:Slc1 V)(h1:tm[2]?=some (.pointer (some ⟨w.heap.size,0,none⟩)))(h2:tm[3]?=some (.pointer (some ⟨w.heap.size+1,0,none⟩)))(h3:tm[4]?=some (.pointer (some ⟨w.heap.size+2,0,none⟩)))(hf:Fac w W V y z) :
  Leaves Tryz.prog Tryz.f20 tm (fun e w'=>(∃ v,e=.returned (.tuple #[v,.int .i64 k,.int .i64 c])∧Own w.heap.size w' v [])∧Ext w w') (dfr w.heap.size) (.panicking [{ v:=.iface 87 (.agg #[.int .i64 c,.int .i64 k]),recovered:=false }]) W:=by
 refine leaves_cons (f:=44) (args:=#[.pointer (some ⟨w.heap.size,0,none⟩),.pointer (some ⟨w.heap.size+1,0,none⟩),.pointer (some ⟨w.heap.size+2,0,none⟩)]) (by simp) (by simp [go_sem]) ?_
 refine (all_placed w.heap.size V c k [] y z _ hf.p hs hf.q hf.r hf.pz hf.qz hf.rz).mono ?_
 rintro e u' w'' ⟨rfl,rfl,w2,hy,rfl⟩
 have hg:=(((hf.on hy).set1 (.slice none 0 0)).set2 k).set3 c
 generalize ((w2.setCell ⟨w.heap.size,0,none⟩ (.slice none 0 0)).setCell ⟨w.heap.size+1,0,none⟩ (.int .i64 k)).setCell ⟨w.heap.size+2,0,none⟩ (.int .i64 c)=Wf at *
 simp [Leaves,settle,results,Tryz.results20,go_sem,h1,h2,h3,hg.p,hg.q,hg.r]
 exact⟨Own.nil _ _,hg.ext⟩
theorem all_leave_errno (w W:World)(tm:Array Value)(V:Value)(c:Int)(y z:Int)(hs:Slc1 V)(h1:tm[2]?=some (.pointer (some ⟨w.heap.size,0,none⟩)))(h2:tm[3]?=some (.pointer (some ⟨w.heap.size+1,0,none⟩)))(h3:tm[4]?=some (.pointer (some ⟨w.heap.size+2,0,none⟩)))(hf:Fac w W V y z) :
  Leaves Tryz.prog Tryz.f20 tm (fun e w'=>(∃ v,e=.returned (.tuple #[v,.int .i64 0,.int .i64 c])∧Own w.heap.size w' v [])∧Ext w w') (dfr w.heap.size) (.panicking [{ v:=.iface 28 (.int .i64 c),recovered:=false }]) W:=by
 refine leaves_cons (f:=44) (args:=#[.pointer (some ⟨w.heap.size,0,none⟩),.pointer (some ⟨w.heap.size+1,0,none⟩),.pointer (some ⟨w.heap.size+2,0,none⟩)]) (by simp) (by simp [go_sem]) ?_
 refine (all_errno w.heap.size V c [] y z _ hf.p hs hf.q hf.r hf.pz hf.qz hf.rz).mono ?_
 rintro e u' w'' ⟨rfl,rfl,w2,hy,rfl⟩
 have hg:=(((hf.on hy).set1 (.slice none 0 0)).set2 0).set3 c
 generalize ((w2.setCell ⟨w.heap.size,0,none⟩ (.slice none 0 0)).setCell ⟨w.heap.size+1,0,none⟩ (.int .i64 0)).setCell ⟨w.heap.size+2,0,none⟩ (.int .i64 c)=Wf at *
 simp [Leaves,settle,results,Tryz.results20,go_sem,h1,h2,h3,hg.p,hg.q,hg.r]
 exact⟨Own.nil _ _,hg.ext⟩
theorem All_long (l:List UInt8)(w:World)(hl:20000<l.length)(hm:l.length≤9223372036854775807) :
  Calls Tryz.prog 20 #[.string ⟨l.toArray⟩] w fun e w'=>(∃ v,e=.returned (.tuple #[v,.int .i64 0,.int .i64 3])∧Own w.heap.size w' v [])∧Ext w w':=by
 have hmf:=make_func
 have hd:decide ((l.length:Int)≤20000)=false:=decide_eq_false (by omega)
 go_enter_defers Tryz.func20,Tryz.ntmps20
 go_wp2_with fail
 refine (need_no _ _).mono ?_
 rintro e w1 ⟨rfl,hw1⟩
 have hf:=Fac.begin w 53 3 28
 rw [←hw1] at hf
 clear hw1
 replace hf:=hid hf
 go_wp2
 refine all_leave_errno w _ _ _ _ _ _ ⟨_,_,_,rfl⟩ ?_ ?_ ?_ hf.out
 ·rfl
 ·rfl
 ·rfl
theorem All_ok (l:List UInt8)(ts:List Tok)(w:World)(hl:l.length≤20000)(hlex:lex 0 l=(ts,none))(he:Hid (Env w)) :
  Calls Tryz.prog 20 #[.string ⟨l.toArray⟩] w fun e w'=>(∃ v,e=.returned (.tuple #[v,.int .i64 0,.int .i64 0])∧Own w.heap.size w' v (ts++[⟨0,l.length,[]⟩]))∧Ext w w':=by
 have hmf:=make_func
 have hd:decide ((l.length:Int)≤20000)=true:=decide_eq_true (by omega)
 replace hlex:=hid hlex
 go_enter_defers Tryz.func20,Tryz.ntmps20
 go_wp2_with fail
 refine (need_ok _ _).mono ?_
 rintro e w1 ⟨rfl,hw1⟩
 have hf:=Fac.begin w 53 3 28
 rw [←hw1] at hf
 clear hw1
 have he1:Hid (Env w1):=he.out.ext hf.ext
 have hB:Hid (w.heap.size+2<w1.heap.size):=lt_of_cell hf.r
 replace hf:=hid hf
 go_wp2_with fail
 refine (scan_ok l ts _ hl hlex.out he1).mono ?_
 rintro e w2 ⟨⟨V,rfl,ho⟩,hx⟩
 obtain⟨ao,n,c,rfl⟩:=ho.slc
 replace hf:=hf.out.on hx
 have gp:=hf.p;have gq:=hf.q;have gr:=hf.r;have gpz:=hf.pz;have gqz:=hf.qz;have grz:=hf.rz
 replace hf:=hid hf
 replace ho:=hid ho
 clear hx he1
 go_wp2
 refine all_leave_idle w _ _ _ _ _ _ _ ?_ ?_ ?_ (((hf.out.set1 _).set2 _).set3 _) (((ho.out.set (by have:=hB.out;omega) _).set (by have:=hB.out;omega) _).set hB.out _) hB.out
 ·rfl
 ·rfl
 ·rfl
theorem All_no (l:List UInt8)(ts:List Tok)(P:Nat)(w:World)(hl:l.length≤20000)(hlex:lex 0 l=(ts,some P))(he:Hid (Env w)) :
  Calls Tryz.prog 20 #[.string ⟨l.toArray⟩] w fun e w'=>(∃ v,e=.returned (.tuple #[v,.int .i64 P,.int .i64 6])∧Own w.heap.size w' v [])∧Ext w w':=by
 have hmf:=make_func
 have hd:decide ((l.length:Int)≤20000)=true:=decide_eq_true (by omega)
 replace hlex:=hid hlex
 go_enter_defers Tryz.func20,Tryz.ntmps20
 go_wp2_with fail
 refine (need_ok _ _).mono ?_
 rintro e w1 ⟨rfl,hw1⟩
 have hf:=Fac.begin w 53 3 28
 rw [←hw1] at hf
 clear hw1
 have he1:Hid (Env w1):=he.out.ext hf.ext
 replace hf:=hid hf
 go_wp2_with fail
 refine (scan_no l ts P _ hl hlex.out he1).mono ?_
 rintro e w2 ⟨rfl,hx⟩
 replace hf:=hf.out.on hx
 replace hf:=hid hf
 clear hx he1
 go_wp2
 refine all_leave_placed w _ _ _ _ _ _ _ ⟨_,_,_,rfl⟩ ?_ ?_ ?_ hf.out
 ·rfl
 ·rfl
 ·rfl
theorem All_c (l:List UInt8)(w:World)(hm:l.length≤9223372036854775807)(he:Hid (Env w)) :
  Calls Tryz.prog 20 #[.string ⟨l.toArray⟩] w fun e w'=>(∃ v,e=.returned (.tuple #[v,.int .i64 (aP l),.int .i64 (aE l)])∧Own w.heap.size w' v (aT l))∧Ext w w':=by
 unfold aP aE aT
 by_cases hl:20000<l.length
 ·rw [if_pos hl,if_pos hl,if_pos hl];exact All_long l w hl hm
 ·rw [if_neg hl,if_neg hl,if_neg hl]
  cases hlex:lex 0 l with
  | mk ts o =>
   cases o with
   | none=>exact All_ok l ts w (by omega) hlex he
   | some P=>exact All_no l ts P w (by omega) hlex he
theorem let_iff (c:UInt8):letL.contains c=(decide (97≤(c.toNat:Int))&&decide ((c.toNat:Int)≤122)||decide (65≤(c.toNat:Int))&&decide ((c.toNat:Int)≤90)):=by
 have:=byte_all (fun c=>letL.contains c==(decide (97≤(c.toNat:Int))&&decide ((c.toNat:Int)≤122)||decide (65≤(c.toNat:Int))&&decide ((c.toNat:Int)≤90))) (by decide +kernel) c
 simpa using this
theorem dig_iff (c:UInt8):digL.contains c=(decide (48≤(c.toNat:Int))&&decide ((c.toNat:Int)≤57)):=by
 have:=byte_all (fun c=>digL.contains c==(decide (48≤(c.toNat:Int))&&decide ((c.toNat:Int)≤57))) (by decide +kernel) c
 simpa using this
theorem letter_c (c:UInt8)(w:World) :
  Calls Tryz.prog 96 #[.int .u8 c.toNat] w fun e w'=>e=.returned (.bool (letL.contains c))∧w'=w:=by
 rw [let_iff]
 generalize (c.toNat:Int)=n at *
 cases h1:decide (97≤n) <;> cases h2:decide (n≤122) <;> cases h3:decide (65≤n) <;> cases h4:decide (n≤90)
 all_goals
  go_enter Tryz.func96,Tryz.ntmps96
  go_wp2
  go_ret
  exact⟨rfl,rfl⟩
theorem digit_c (c:UInt8)(w:World) :
  Calls Tryz.prog 97 #[.int .u8 c.toNat] w fun e w'=>e=.returned (.bool (digL.contains c))∧w'=w:=by
 rw [dig_iff]
 generalize (c.toNat:Int)=n at *
 cases h1:decide (48≤n) <;> cases h2:decide (n≤57)
 all_goals
  go_enter Tryz.func97,Tryz.ntmps97
  go_wp2
  go_ret
  exact⟨rfl,rfl⟩
theorem letter_x (c:UInt8)(b:Bool)(h:letL.contains c=b)(w:World) :
  Calls Tryz.prog 96 #[.int .u8 c.toNat] w fun e w'=>e=.returned (.bool b)∧w'=w:=h ▸ letter_c c w
theorem digit_x (c:UInt8)(b:Bool)(h:digL.contains c=b)(w:World) :
  Calls Tryz.prog 97 #[.int .u8 c.toNat] w fun e w'=>e=.returned (.bool b)∧w'=w:=h ▸ digit_c c w
theorem inW_iff (c:UInt8):inWL.contains c=(letL.contains c||digL.contains c||((c.toNat:Int)==45)):=by
 have:=byte_all (fun c=>inWL.contains c==(letL.contains c||digL.contains c||((c.toNat:Int)==45))) (by decide +kernel) c
 simpa using this
theorem inN_iff (c:UInt8):inNL.contains c=(digL.contains c||((c.toNat:Int)==46)||((c.toNat:Int)==45)||((c.toNat:Int)==47)||((c.toNat:Int)==37)):=by
 have:=byte_all (fun c=>inNL.contains c==(digL.contains c||((c.toNat:Int)==46)||((c.toNat:Int)==45)||((c.toNat:Int)==47)||((c.toNat:Int)==37))) (by decide +kernel) c
 simpa using this
theorem goesW_c (c:UInt8)(w:World) :
  Calls Tryz.prog 56 #[.int .i64 1,.int .u8 c.toNat] w fun e w'=>e=.returned (.bool (inWL.contains c))∧w'=w:=by
 rw [inW_iff]
 cases h1:letL.contains c
 ·cases h2:digL.contains c
  ·replace h1:=hid h1
   replace h2:=hid h2
   go_enter Tryz.func56,Tryz.ntmps56
   go_wp2_with fail
   refine (letter_x c false h1.out _).mono ?_
   rintro e w1 ⟨rfl,rfl⟩
   go_wp2_with fail
   refine (digit_x c false h2.out _).mono ?_
   rintro e w2 ⟨rfl,rfl⟩
   go_wp2
   go_ret
   exact⟨ret_bool rfl,rfl⟩
  ·replace h1:=hid h1
   replace h2:=hid h2
   go_enter Tryz.func56,Tryz.ntmps56
   go_wp2_with fail
   refine (letter_x c false h1.out _).mono ?_
   rintro e w1 ⟨rfl,rfl⟩
   go_wp2_with fail
   refine (digit_x c true h2.out _).mono ?_
   rintro e w2 ⟨rfl,rfl⟩
   go_wp2
   go_ret
   exact⟨rfl,rfl⟩
 ·replace h1:=hid h1
  go_enter Tryz.func56,Tryz.ntmps56
  go_wp2_with fail
  refine (letter_x c true h1.out _).mono ?_
  rintro e w1 ⟨rfl,rfl⟩
  go_wp2
  go_ret
  exact⟨rfl,rfl⟩
theorem goesN_c (c:UInt8)(w:World) :
  Calls Tryz.prog 56 #[.int .i64 2,.int .u8 c.toNat] w fun e w'=>e=.returned (.bool (inNL.contains c))∧w'=w:=by
 rw [inN_iff]
 cases h1:digL.contains c
 ·replace h1:=hid h1
  cases h2:((c.toNat:Int)==46) <;> cases h3:((c.toNat:Int)==45) <;> cases h4:((c.toNat:Int)==47)
  all_goals
   go_enter Tryz.func56,Tryz.ntmps56
   go_wp2_with fail
   refine (digit_x c false h1.out _).mono ?_
   rintro e w1 ⟨rfl,rfl⟩
   go_wp2
   go_ret
   exact⟨ret_bool rfl,rfl⟩
 ·replace h1:=hid h1
  go_enter Tryz.func56,Tryz.ntmps56
  go_wp2_with fail
  refine (digit_x c true h1.out _).mono ?_
  rintro e w1 ⟨rfl,rfl⟩
  go_wp2
  go_ret
  exact⟨rfl,rfl⟩
def kdR (l:List UInt8):Int:=if kd l=0 then -1 else kd l
theorem sgn_iff (c:UInt8):sgnL.contains c=(((c.toNat:Int)==123)||((c.toNat:Int)==125)||((c.toNat:Int)==59)):=by
 have:=byte_all (fun c=>sgnL.contains c==(((c.toNat:Int)==123)||((c.toNat:Int)==125)||((c.toNat:Int)==59))) (by decide +kernel) c
 simpa using this
theorem hy_iff (c:UInt8):(c==45)=((c.toNat:Int)==45):=by
 have:=byte_all (fun c=>(c==45)==((c.toNat:Int)==45)) (by decide +kernel) c
 simpa using this
theorem get_at {l m:List UInt8}{k:Nat}{c:UInt8}(h:l.drop k=c::m):∀ g,(⟨l.toArray⟩:ByteArray)[k]'g=c:=by
 intro g
 have h1:l[k]?=some c:=by
  have:=congrArg (fun x=>x[0]?) h
  simpa using this
 have h2:(⟨l.toArray⟩:ByteArray)[k]'g=l[k]'(by rw [Lib.size_mk] at g;simpa using g):=rfl
 rw [h2]
 exact (List.getElem?_eq_some_iff.1 h1).2
theorem len_drop {l m:List UInt8}{k:Nat}(h:l.drop k=m)(hk:k≤l.length):l.length=k+m.length:=by
 have:=congrArg List.length h
 rw [List.length_drop] at this
 omega
theorem drop_next {l m:List UInt8}{k:Nat}{c:UInt8}(h:l.drop k=c::m):l.drop (k+1)=m:=by
 rw [←List.drop_drop,h];rfl
theorem kind_c (l m:List UInt8)(c:UInt8)(k:Nat)(w:World)(hm:l.drop k=c::m)(hl:l.length≤20000)(hk:k<l.length) :
  Calls Tryz.prog 55 #[.string ⟨l.toArray⟩,.int .i64 k] w fun e w'=>e=.returned (.int .i64 (kdR (c::m)))∧w'=w:=by
 have g0:=get_at hm
 have hlen:=len_drop hm (by omega)
 simp only [List.length_cons] at hlen
 have hnx:=drop_next hm
 unfold kdR
 rw [kd_cons,hy_iff,sgn_iff]
 replace hm:=hid hm
 replace hnx:=hid hnx
 replace hlen:=hid hlen
 cases h1:letL.contains c
 ·replace h1:=hid h1
  cases h2:digL.contains c
  ·replace h2:=hid h2
   cases h3:((c.toNat:Int)==45)
   ·cases h4:((c.toNat:Int)==123) <;> cases h5:((c.toNat:Int)==125) <;> cases h6:((c.toNat:Int)==59)
    all_goals
     go_enter Tryz.func55,Tryz.ntmps55
     go_wp2_with fail
     refine (letter_x c false h1.out _).mono ?_
     rintro e w1 ⟨rfl,rfl⟩
     go_wp2_with fail
     refine (digit_x c false h2.out _).mono ?_
     rintro e w2 ⟨rfl,rfl⟩
     go_wp2
     go_ret
     exact⟨rfl,rfl⟩
   ·have h45:(c.toNat:Int)=45:=by simpa using h3
    have h4:((c.toNat:Int)==123)=false:=by rw [h45];rfl
    have h5:((c.toNat:Int)==125)=false:=by rw [h45];rfl
    have h6:((c.toNat:Int)==59)=false:=by rw [h45];rfl
    clear h45
    rw [h4,h5,h6]
    cases m with
    | nil =>
     have hd:decide ((k:Int)+1<(l.length:Int))=false:=decide_eq_false (by have:=hlen.out;simp at this;omega)
     go_enter Tryz.func55,Tryz.ntmps55
     go_wp2_with fail
     refine (letter_x c false h1.out _).mono ?_
     rintro e w1 ⟨rfl,rfl⟩
     go_wp2_with fail
     refine (digit_x c false h2.out _).mono ?_
     rintro e w2 ⟨rfl,rfl⟩
     go_wp2
     go_ret
     exact⟨rfl,rfl⟩
    | cons d m =>
     have hd:decide ((k:Int)+1<(l.length:Int))=true:=decide_eq_true (by have:=hlen.out;simp at this;omega)
     have hd2:k+1<l.length:=by have:=hlen.out;simp at this;omega
     have g1:=get_at hnx.out
     rw [beg_cons]
     cases h7:digL.contains d
     all_goals
      replace h7:=hid h7
      go_enter Tryz.func55,Tryz.ntmps55
      go_wp2_with fail
      refine (letter_x c false h1.out _).mono ?_
      rintro e w1 ⟨rfl,rfl⟩
      go_wp2_with fail
      refine (digit_x c false h2.out _).mono ?_
      rintro e w2 ⟨rfl,rfl⟩
      go_wp2_with fail
      refine (digit_x d _ h7.out _).mono ?_
      rintro e w3 ⟨rfl,rfl⟩
      go_wp2
      go_ret
      exact⟨rfl,rfl⟩
  ·replace h2:=hid h2
   go_enter Tryz.func55,Tryz.ntmps55
   go_wp2_with fail
   refine (letter_x c false h1.out _).mono ?_
   rintro e w1 ⟨rfl,rfl⟩
   go_wp2_with fail
   refine (digit_x c true h2.out _).mono ?_
   rintro e w2 ⟨rfl,rfl⟩
   go_wp2
   go_ret
   exact⟨rfl,rfl⟩
 ·replace h1:=hid h1
  go_enter Tryz.func55,Tryz.ntmps55
  go_wp2_with fail
  refine (letter_x c true h1.out _).mono ?_
  rintro e w1 ⟨rfl,rfl⟩
  go_wp2
  go_ret
  exact⟨rfl,rfl⟩
structure Far (l:List UInt8)(j:Nat)(us:List Tok):Prop where
 le:j≤l.length
 few:us.length≤j
 all:lex 0 l=(us++(lex j (l.drop j)).1,(lex j (l.drop j)).2)
theorem Far.start (l:List UInt8):Far l 0 []:=⟨Nat.zero_le _,Nat.zero_le _,by simp⟩
theorem Far.skip {l:List UInt8}{j n:Nat}{us:List Tok}(h:Far l j us)(hn:j+n≤l.length)(hw:wh false (l.drop j)=n+wh false (l.drop (j+n))):Far l (j+n) us :=
 ⟨hn,by have:=h.few;omega,by rw [h.all,lex_skip (n:=n) (l:=l.drop j) (by rw [hw,List.drop_drop]),List.drop_drop]⟩
theorem Far.fin {l:List UInt8}{j:Nat}{us:List Tok}(h:Far l j us)(hj:¬ j<l.length):lex 0 l=(us,none):=by
 have hd:l.drop j = []:=List.drop_of_length_le (by omega)
 rw [h.all,hd,lex_end (l:=[]) rfl];simp
theorem Far.bad {l m:List UInt8}{c:UInt8}{j:Nat}{us:List Tok}(h:Far l j us)(hm:l.drop j=c::m)(hw:wh false (c::m)=0)(hs:sz (c::m)=0):lex 0 l=(us,some j):=by
 rw [h.all,hm,lex_bad hw hs];simp
theorem Far.step {l m:List UInt8}{c:UInt8}{j n:Nat}{us:List Tok}(h:Far l j us)(hm:l.drop j=c::m)(hw:wh false (c::m)=0)(hs:sz (c::m)=n)(hn:0<n) :
  Far l (j+n) (us++[⟨kd (c::m),j,(c::m).take n⟩]):=by
 have hz:=sz_le (c::m)
 have hl:=congrArg List.length hm
 rw [List.length_drop] at hl
 refine⟨by have:=h.le;omega,by have:=h.few;simp;omega,?_⟩
 have hd:(c::m).drop n=l.drop (j+n):=by rw [←hm,List.drop_drop]
 rw [h.all,hm,lex_tok hw hs hn,hd]
 simp
def Goes (k:Nat)(t:List UInt8):Prop:=(k=1∧t=inWL)∨(k=2∧t=inNL)
theorem kd_cases (c:UInt8)(m:List UInt8):(kd (c::m)=0∧sz (c::m)=0)∨(∃ k t,kd (c::m)=k∧sz (c::m)=rn m t+1∧Goes k t)∨(kd (c::m)=3∧sz (c::m)=1):=by
 rw [sz_cons,kd_cons]
 split
 ·exact Or.inr (Or.inl ⟨_,_,rfl,rfl,Or.inl ⟨rfl,rfl⟩⟩)
 ·split
  ·exact Or.inr (Or.inl ⟨_,_,rfl,rfl,Or.inr ⟨rfl,rfl⟩⟩)
  ·split
   ·exact Or.inr (Or.inr ⟨rfl,rfl⟩)
   ·exact Or.inl ⟨rfl,rfl⟩
theorem goes_x (k:Nat)(t:List UInt8)(c:UInt8)(b:Bool)(h:Goes k t)(hb:t.contains c=b)(w:World) :
  Calls Tryz.prog 56 #[.int .i64 k,.int .u8 c.toNat] w fun e w'=>e=.returned (.bool b)∧w'=w:=by
 rcases h with ⟨rfl,rfl⟩ | ⟨rfl,rfl⟩
 ·exact hb ▸ goesW_c c w
 ·exact hb ▸ goesN_c c w
theorem kind_x (l m:List UInt8)(c:UInt8)(k:Nat)(v:Int)(hv:kdR (c::m)=v)(w:World)(hm:l.drop k=c::m)(hl:l.length≤20000)(hk:k<l.length) :
  Calls Tryz.prog 55 #[.string ⟨l.toArray⟩,.int .i64 k] w fun e w'=>e=.returned (.int .i64 v)∧w'=w:=hv ▸ kind_c l m c k w hm hl hk
theorem bl_iff (c:UInt8):blankL.contains c=(((c.toNat:Int)==32)||((c.toNat:Int)==9)||((c.toNat:Int)==10)):=by
 have:=byte_all (fun c=>blankL.contains c==(((c.toNat:Int)==32)||((c.toNat:Int)==9)||((c.toNat:Int)==10))) (by decide +kernel) c
 simpa using this
theorem rm_iff (c:UInt8):(c==35)=((c.toNat:Int)==35):=by
 have:=byte_all (fun c=>(c==35)==((c.toNat:Int)==35)) (by decide +kernel) c
 simpa using this
theorem nl_iff (c:UInt8):(c != 10)=((c.toNat:Int) != 10):=by
 have:=byte_all (fun c=>(c != 10)==((c.toNat:Int) != 10)) (by decide +kernel) c
 simpa using this
theorem drop_lt {l:List UInt8}{j:Nat}(h:j<l.length):∃ c m,l.drop j=c::m:=by
 cases hm:l.drop j with
 | nil=>have:=congrArg List.length hm;simp at this;omega
 | cons c m=>exact ⟨c,m,rfl⟩
theorem bl_no {c:UInt8}(h:blankL.contains c=false):((c.toNat:Int)==32)=false∧((c.toNat:Int)==9)=false∧((c.toNat:Int)==10)=false:=by
 rw [bl_iff] at h
 simpa only [Bool.or_eq_false_iff,and_assoc] using h
theorem a_bad {l:List UInt8}{us:List Tok}{j:Nat}(hl:l.length≤20000)(h:lex 0 l=(us,some j)):aP l=j∧aE l=6∧aT l = []:=by
 have h':¬ 20000<l.length:=by omega
 simp [aP,aE,aT,h',h]
theorem a_fin {l:List UInt8}{us:List Tok}(hl:l.length≤20000)(h:lex 0 l=(us,none)):aP l=0∧aE l=0∧aT l=us++[⟨0,l.length,[]⟩]:=by
 have h':¬ 20000<l.length:=by omega
 simp [aP,aE,aT,h',h]
theorem rAll_le (l:List UInt8)(w:World)(hl:l.length≤20000) :
  Calls Tryz.prog 24 #[.string ⟨l.toArray⟩] w fun e w'=>(∃ v,e=.returned (.tuple #[v,.int .i64 (aP l),.int .i64 (aE l)])∧Own w.heap.size w' v (aT l))∧Ext w w':=by
 obtain⟨i0,hi,hz0,hz1,hz2⟩:=info_parts info_tok
 go_enter Tryz.func24,Tryz.ntmps24
 go_wp2_with fail
 go_loopw [5,6] (fun v i wr=>∃ (j:Nat) (us:List Tok),j≤l.length∧us.length≤j∧i=.int .i64 (j:Int)∧Hid (Far l j us)∧Hid (Own w.heap.size wr v us)∧Hid (Ext w wr)) (fun _ i _=>l.length-(RowKit.intOf i).toNat)
 case atStart=>exact ⟨0,[],Nat.zero_le _,Nat.zero_le _,rfl,Far.start l,Own.nil _ _,Ext.refl w⟩
 case round =>
  obtain⟨j,us,hjl,huj,rfl,hfar,ho,hx⟩:=hrel
  have hsz:=hx.out.size
  by_cases hlt:j<l.length
  ·obtain ⟨c,m,hm⟩:=drop_lt hlt
   have g0:=get_at hm
   have hlen:=len_drop hm hjl
   simp only [List.length_cons] at hlen
   have hnx:=drop_next hm
   replace hlen:=hid hlen
   cases hb:blankL.contains c
   ·obtain ⟨b1,b2,b3⟩:=bl_no hb
    cases hr:(c==35)
    ·have b4:((c.toNat:Int)==35)=false:=by rw [←rm_iff];exact hr
     have hw:wh false (c::m)=0:=by rw [wh,if_neg (by rw [hb];simp),if_neg (by simpa using hr)]
     replace hw:=hid hw
     replace hm:=hid hm
     replace hnx:=hid hnx
     clear hb hr
     rcases kd_cases c m with ⟨h1,h2⟩ | ⟨k,t,h1,h2,h3⟩ | ⟨h1,h2⟩
     ·have hv:kdR (c::m) = -1:=by unfold kdR;rw [if_pos h1]
      have hbad:=a_bad hl (hfar.out.bad hm.out hw.out h2)
      replace hbad:=hid hbad
      replace hv:=hid hv
      clear h1 h2
      go_wp2_with fail
      refine (kind_x l m c j (-1) hv.out _ hm.out hl hlt).mono ?_
      rintro e w1 ⟨rfl,rfl⟩
      go_wp2
      obtain⟨e1,e2,e3⟩:=hbad.out
      rw [e1,e2,e3]
      exact bodyPost_ret (v:=.tuple #[.slice none 0 0,.int .i64 j,.int .i64 6]) (by simp [results,Tryz.results24,go_sem]) rfl ⟨⟨_,rfl,Own.nil _ _⟩,hx.out⟩
     ·have hv:kdR (c::m)=k:=by unfold kdR;rw [if_neg (by rw [h1];rcases h3 with ⟨rfl,_⟩ | ⟨rfl,_⟩ <;> decide),h1]
      have hk3:((k:Int) != 3)=true:=by rcases h3 with ⟨rfl,_⟩ | ⟨rfl,_⟩ <;> decide
      have hk0:decide ((k:Int)<0)=false:=decide_eq_false (by omega)
      have hstep:=hfar.out.step hm.out hw.out h2 (by omega)
      obtain⟨J,hJ⟩:∃ J,j+(rn m t+1)=J:=⟨_,rfl⟩
      obtain⟨T,hT⟩:∃ T,(c::m).take (rn m t+1)=T:=⟨_,rfl⟩
      rw [hJ,h1,hT] at hstep
      have hJl:=hstep.le
      have hE:=ext_part l j J
      rw [hm.out,show J-j=rn m t+1 by omega,hT] at hE
      have hjJ:j<J:=by omega
      have hst:j+1+rn (l.drop (j+1)) t=J:=by rw [hnx.out];omega
      replace hv:=hid hv
      replace h3:Hid (Goes k t):=h3
      replace hstep:=hid hstep
      replace hst:=hid hst
      clear h1 h2 hJ hT
      go_wp2_with fail
      refine (kind_x l m c j k hv.out _ hm.out hl hlt).mono ?_
      rintro e w1 ⟨rfl,rfl⟩
      go_wp2_with fail
      go_loop [6] (fun i=>∃ q:Nat,q≤J∧j<q∧i=.int .i64 (q:Int)∧Hid (q+rn (l.drop q) t=J)) (fun i=>l.length-(RowKit.intOf i).toNat)
      case atStart=>exact ⟨j+1,by omega,by omega,by go_num,hst⟩
      case round =>
       obtain⟨q,hqJ,hjq,rfl,hq⟩:=hrel
       clear hst g0 b1 b2 b3 b4
       by_cases hql:q<l.length
       ·obtain ⟨d,m2,hm2⟩:=drop_lt hql
        have g1:=get_at hm2
        cases hd:t.contains d
        ·have hqe:J=q:=by have h:=hq.out;rw [hm2,rn_out hd] at h;omega
         subst hqe
         replace hd:=hid hd
         replace hm2:=hid hm2
         clear hq
         go_wp2_with fail
         refine (goes_x k t d false h3.out hd.out _).mono ?_
         rintro e w2 ⟨rfl,rfl⟩
         go_wp2_with (at_builtin;refine wpList_append_own _ rfl (.tmp 72) (.tmp 80) 53 rfl w.heap.size 64 i0 (.agg #[.int .i64 0,.int .i64 0,.string ⟨#[]⟩]) 3 32 Tryz.underlying53 hi hz0 hz1 hz2 rfl (by decide) _ _ _ rfl (ho.out.row.alloc _) ⟨w2.heap.size,0,none⟩ 1 1 (cellT ⟨k,j,T⟩) rfl rfl ?c1 ?c2 ?c3 ?c4 ?c5 ?_)
         case c1 =>
          intro p u hp
          match p,hp with
          | 0,hp=>simp [cellT] at hp;subst hp;simp [Addr.add,go_sem]
          | 1,hp=>simp [cellT] at hp;subst hp;simp [Addr.add,go_sem]
          | 2,hp=>simp [cellT] at hp;subst hp;simp [Addr.add,go_sem]
          | p+3,hp=>simp [cellT] at hp
         case c2=>intro u hu;simp [cellT] at hu;rcases hu with rfl | rfl | rfl <;> rfl
         case c3=>unfold maxLen;omega
         case c4=>omega
         case c5=>first | (simp;omega) | omega
         intro v' w3 hown' hgrow _
         have hx3:Hid (Ext w w3):=⟨((hx.out.alloc _ _).below).grown hgrow (by simp;omega) (own_lo ho.out.row)⟩
         have hr3:Hid (Own w.heap.size w3 v' (us++[⟨k,j,T⟩])):=Own.snoc hown'
         clear hown' hgrow ho hx
         go_wp2
         go_roundw
         case rel=>exact ⟨J,us++[⟨k,j,T⟩],hstep.out.le,hstep.out.few,rfl,hstep,hr3,hx3⟩
         case measure=>simp [RowKit.intOf];omega
        ·have hq2:q+1+rn (l.drop (q+1)) t=J:=by have h:=hq.out;rw [hm2,rn_in hd] at h;rw [drop_next hm2];omega
         replace hq2:=hid hq2
         have hqJ2:q+1≤J:=by have:=hq2.out;omega
         replace hd:=hid hd
         replace hm2:=hid hm2
         clear hq
         go_wp2_with fail
         refine (goes_x k t d true h3.out hd.out _).mono ?_
         rintro e w2 ⟨rfl,rfl⟩
         go_wp2
         go_round
         case rel=>exact ⟨q+1,hqJ2,by omega,by go_num,hq2⟩
         case measure=>simp [RowKit.intOf];omega
       ·have hqe:J=q:=by omega
        subst hqe
        clear hq
        go_wp2_with (at_builtin;refine wpList_append_own _ rfl (.tmp 72) (.tmp 80) 53 rfl w.heap.size 64 i0 (.agg #[.int .i64 0,.int .i64 0,.string ⟨#[]⟩]) 3 32 Tryz.underlying53 hi hz0 hz1 hz2 rfl (by decide) _ _ _ rfl (ho.out.row.alloc _) ⟨w1.heap.size,0,none⟩ 1 1 (cellT ⟨k,j,T⟩) rfl rfl ?c1 ?c2 ?c3 ?c4 ?c5 ?_)
        case c1 =>
         intro p u hp
         match p,hp with
         | 0,hp=>simp [cellT] at hp;subst hp;simp [go_sem]
         | 1,hp=>simp [cellT] at hp;subst hp;simp [go_sem]
         | 2,hp=>simp [cellT] at hp;subst hp;simp [go_sem]
         | p+3,hp=>simp [cellT] at hp
        case c2=>intro u hu;simp [cellT] at hu;rcases hu with rfl | rfl | rfl <;> rfl
        case c3=>unfold maxLen;omega
        case c4=>omega
        case c5=>first | (simp;omega) | omega
        intro v' w3 hown' hgrow _
        have hx3:Hid (Ext w w3):=⟨((hx.out.alloc _ _).below).grown hgrow (by simp;omega) (own_lo ho.out.row)⟩
        have hr3:Hid (Own w.heap.size w3 v' (us++[⟨k,j,T⟩])):=Own.snoc hown'
        clear hown' hgrow ho hx
        go_wp2
        go_roundw
        case rel=>exact ⟨J,us++[⟨k,j,T⟩],hstep.out.le,hstep.out.few,rfl,hstep,hr3,hx3⟩
        case measure=>simp [RowKit.intOf];omega
     ·have hv:kdR (c::m)=3:=by unfold kdR;rw [if_neg (by omega),h1];rfl
      have hstep:=hfar.out.step hm.out hw.out h2 (by omega)
      obtain⟨J,hJ⟩:∃ J,j+1=J:=⟨_,rfl⟩
      obtain⟨T,hT⟩:∃ T,(c::m).take 1=T:=⟨_,rfl⟩
      rw [hJ,h1,hT] at hstep
      have hJl:=hstep.le
      have hE:=ext_part l j J
      rw [hm.out,show J-j=1 by omega,hT] at hE
      have hjJ:j<J:=by omega
      have hsum:(j:Int)+1=(J:Int):=by omega
      replace hv:=hid hv
      replace hstep:=hid hstep
      clear h1 h2 hJ hT
      go_wp2_with fail
      refine (kind_x l m c j 3 hv.out _ hm.out hl hlt).mono ?_
      rintro e w1 ⟨rfl,rfl⟩
      go_wp2_with fail
      refine wp_loop_rounds 1 ?_
      rw [rounds_succ]
      go_wp2_with (at_builtin;refine wpList_append_own _ rfl (.tmp 72) (.tmp 80) 53 rfl w.heap.size 64 i0 (.agg #[.int .i64 0,.int .i64 0,.string ⟨#[]⟩]) 3 32 Tryz.underlying53 hi hz0 hz1 hz2 rfl (by decide) _ _ _ rfl (ho.out.row.alloc _) ⟨w1.heap.size,0,none⟩ 1 1 (cellT ⟨3,j,T⟩) rfl rfl ?c1 ?c2 ?c3 ?c4 ?c5 ?_)
      case c1 =>
       intro p u hp
       match p,hp with
       | 0,hp=>simp [cellT] at hp;subst hp;simp [Addr.add,go_sem]
       | 1,hp=>simp [cellT] at hp;subst hp;simp [Addr.add,go_sem]
       | 2,hp=>simp [cellT] at hp;subst hp;simp [Addr.add,go_sem]
       | p+3,hp=>simp [cellT] at hp
      case c2=>intro u hu;simp [cellT] at hu;rcases hu with rfl | rfl | rfl <;> rfl
      case c3=>unfold maxLen;omega
      case c4=>omega
      case c5=>first | (simp;omega) | omega
      intro v' w3 hown' hgrow _
      have hx3:Hid (Ext w w3):=⟨((hx.out.alloc _ _).below).grown hgrow (by simp;omega) (own_lo ho.out.row)⟩
      have hr3:Hid (Own w.heap.size w3 v' (us++[⟨3,j,T⟩])):=Own.snoc hown'
      clear hown' hgrow ho hx
      go_wp2
      go_roundw
      case rel=>exact ⟨J,us++[⟨3,j,T⟩],hstep.out.le,hstep.out.few,rfl,hstep,hr3,hx3⟩
      case measure=>simp [RowKit.intOf];omega
    ·have b4:((c.toNat:Int)==35)=true:=by rw [←rm_iff];exact hr
     have hbg:beg (l.drop j) remL=true:=by rw [hm,beg_cons,show c=35 by simpa using hr];rfl
     obtain⟨hw1,hw2⟩:=wh_line hbg
     obtain⟨J,hJ⟩:∃ J,j+ln (l.drop j)=J:=⟨_,rfl⟩
     have hJl:J≤l.length:=by have h:=ln_le (l.drop j);rw [List.length_drop] at h;omega
     have hnew:=hfar.out.skip (n:=ln (l.drop j)) (by omega) (by rw [hw1,List.drop_drop])
     rw [hJ] at hnew
     have hjJ:j<J:=by omega
     replace hnew:=hid hnew
     replace hJ:=hid hJ
     replace hm:=hid hm
     replace hnx:=hid hnx
     clear hb hr hbg hw1 hw2
     go_wp2_with fail
     go_loop [6] (fun i=>∃ q:Nat,q≤J∧i=.int .i64 (q:Int)∧Hid (q+ln (l.drop q)=J)) (fun i=>l.length-(RowKit.intOf i).toNat)
     case atStart=>exact ⟨j,by omega,rfl,hJ⟩
     case round =>
      obtain⟨q,hqJ,rfl,hq⟩:=hrel
      clear g0 b1 b2 b3 b4
      by_cases hql:q<l.length
      ·obtain ⟨d,m2,hm2⟩:=drop_lt hql
       have g1:=get_at hm2
       cases hd:(d != 10)
       ·have hdd:((d.toNat:Int) != 10)=false:=by rw [←nl_iff];exact hd
        have hqe:J=q:=by
         have h:=hq.out
         rw [hm2,show d=10 by simpa using hd,ln_out] at h
         omega
        subst hqe
        replace hd:=hid hd
        replace hm2:=hid hm2
        clear hq
        go_wp2
        go_roundw
        case rel=>exact ⟨_,us,hJl,hnew.out.few,rfl,hnew,ho,hx⟩
        case measure=>simp [RowKit.intOf];omega
       ·have hdd:((d.toNat:Int) != 10)=true:=by rw [←nl_iff];exact hd
        have hq2:q+1+ln (l.drop (q+1))=J:=by
         have h:=hq.out
         rw [hm2,ln_in (by simpa using hd)] at h
         rw [drop_next hm2]
         omega
        have hqJ2:q+1≤J:=by omega
        replace hq2:=hid hq2
        replace hd:=hid hd
        replace hm2:=hid hm2
        clear hq
        go_wp2
        go_round
        case rel=>exact ⟨q+1,hqJ2,by go_num,hq2⟩
        case measure=>simp [RowKit.intOf];omega
      ·have hqe:J=q:=by omega
       subst hqe
       clear hq
       go_wp2
       go_roundw
       case rel=>exact ⟨_,us,hJl,hnew.out.few,rfl,hnew,ho,hx⟩
       case measure=>simp [RowKit.intOf];omega
   ·have hnew:=hfar.out.skip (n:=1) (by omega) (by rw [hm,hnx,wh,if_pos hb])
    replace hnew:=hid hnew
    have hbl:=bl_iff c
    rw [hb] at hbl
    replace hbl:=hid hbl
    replace hm:=hid hm
    replace hnx:=hid hnx
    clear hb
    cases b1:((c.toNat:Int)==32) <;> cases b2:((c.toNat:Int)==9) <;> cases b3:((c.toNat:Int)==10)
    case false.false.false=>exfalso;have h:=hbl.out;rw [b1,b2,b3] at h;cases h
    all_goals
     go_wp2
     go_roundw
     case rel=>exact ⟨j+1,us,hnew.out.le,hnew.out.few,by go_num,hnew,ho,hx⟩
     case measure=>simp [RowKit.intOf];omega
  ·have hfin:=a_fin hl (hfar.out.fin hlt)
   replace hfin:=hid hfin
   go_wp2_with (at_builtin;refine wpList_append_own _ rfl (.tmp 82) (.tmp 86) 53 rfl w.heap.size 64 i0 (.agg #[.int .i64 0,.int .i64 0,.string ⟨#[]⟩]) 3 32 Tryz.underlying53 hi hz0 hz1 hz2 rfl (by decide) _ _ _ rfl (ho.out.row.alloc _) ⟨wr.heap.size,0,none⟩ 1 1 (cellT ⟨0,l.length,[]⟩) rfl rfl ?c1 ?c2 ?c3 ?c4 ?c5 ?_)
   case c1 =>
    intro p u hp
    match p,hp with
    | 0,hp=>simp [cellT] at hp;subst hp;simp [Addr.add,go_sem]
    | 1,hp=>simp [cellT] at hp;subst hp;simp [Addr.add,go_sem]
    | 2,hp=>simp [cellT] at hp;subst hp;simp [Addr.add,go_sem]
    | p+3,hp=>simp [cellT] at hp
   case c2=>intro u hu;simp [cellT] at hu;rcases hu with rfl | rfl | rfl <;> rfl
   case c3=>unfold maxLen;omega
   case c4=>omega
   case c5=>first | (simp;omega) | omega
   intro v' w3 hown' hgrow _
   have hx3:Hid (Ext w w3):=⟨((hx.out.alloc _ _).below).grown hgrow (by simp;omega) (own_lo ho.out.row)⟩
   have hr3:Hid (Own w.heap.size w3 v' (us++[⟨0,l.length,[]⟩])):=Own.snoc hown'
   clear hown' hgrow ho hx
   go_wp2
   obtain⟨e1,e2,e3⟩:=hfin.out
   rw [e1,e2,e3]
   exact bodyPost_ret (v:=.tuple #[v',.int .i64 0,.int .i64 0]) (by simp [results,Tryz.results24,go_sem]) rfl ⟨⟨_,rfl,hr3.out⟩,hx3.out⟩
theorem rAll_long (l:List UInt8)(w:World)(hl:20000<l.length)(hm:l.length≤9223372036854775807) :
  Calls Tryz.prog 24 #[.string ⟨l.toArray⟩] w fun e w'=>(∃ v,e=.returned (.tuple #[v,.int .i64 0,.int .i64 3])∧Own w.heap.size w' v [])∧Ext w w':=by
 go_enter Tryz.func24,Tryz.ntmps24
 go_wp2
 exact bodyPost_ret (v:=.tuple #[.slice none 0 0,.int .i64 0,.int .i64 3]) (by simp [results,Tryz.results24,go_sem]) rfl ⟨⟨_,rfl,Own.nil _ _⟩,Ext.refl _⟩
theorem rAll_c (l:List UInt8)(w:World)(hm:l.length≤9223372036854775807) :
  Calls Tryz.prog 24 #[.string ⟨l.toArray⟩] w fun e w'=>(∃ v,e=.returned (.tuple #[v,.int .i64 (aP l),.int .i64 (aE l)])∧Own w.heap.size w' v (aT l))∧Ext w w':=by
 by_cases hl:20000<l.length
 ·unfold aP aE aT
  rw [if_pos hl,if_pos hl,if_pos hl];exact rAll_long l w hl hm
 ·exact rAll_le l w (by omega)
end Go.Proofs.YtcijdkbopiaicaaGreatDoor.L7
