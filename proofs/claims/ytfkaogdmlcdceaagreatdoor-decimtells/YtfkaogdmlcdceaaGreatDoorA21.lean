/- Own work: contracts of the program's functions, part 21: DSK DSL DSM DSN DSO DUC DUD DUE DUF DUG DSP DUH DRI DRK DRL DRJ DRN DRO DRP DRQ DRR DRS DRT DUI. -/
import Derived.Test.YtfkaogdmlcdceaaGreatDoorA20
import Derived.Test.YtfkaogdmlcdceaaGreatDoorA19
import Derived.Test.YtfkaogdmlcdceaaGreatDoorA16
import Derived.Test.YtfkaogdmlcdceaaGreatDoorA18

set_option maxHeartbeats 16000000
set_option maxRecDepth 200000
set_option linter.unusedVariables false
set_option linter.unusedSimpArgs false
namespace Go.Proofs.YtfkaogdmlcdceaaGreatDoor
open Go Go.RowKit Go.Fl64
def scR (A:Nat) (k:Int):Nat:=A*tnO k % (tnU k*kU)
def rdU (A:Nat) (k:Int) (neg:Bool) (m:Int):Bool :=
 if m=2 then decide (tnU k*kU<2*scR A k)||(decide (2*scR A k=tnU k*kU)&&decide (scF A k % 2=1))else if m=3 then !neg else neg
def rdN (A:Nat) (k:Int) (neg:Bool) (m:Int):Nat:=if scE A k then scF A k else if rdU A k neg m then scF A k+1 else scF A k
theorem tnU_pos (k:Int):0<tnU k*kU:=Nat.mul_pos (Nat.pow_pos (by decide)) kU_pos
theorem sc_eq (A:Nat) (k:Int):A*tnO k=tnU k*kU*scF A k+scR A k∧scR A k<tnU k*kU:=⟨(Nat.div_add_mod _ _).symm,Nat.mod_lt _ (tnU_pos k)⟩
def hT8:Nat:=8001
theorem hT8_eq:hT8=8001:=rfl
theorem un_nnS (x:Nat):(un ((x:Nat):Int) 0).1=false:=by unfold un cn;split;rfl;exact nn_dec x
theorem tnO_lt {k:Int} (hk : -2000≤k∧k≤2000):tnO k<2^hT8∧tnU k<2^hT8:=by
 have key:∀ n:Nat,n≤2000→10^n<2^hT8:=fun n hn=>Nat.lt_of_lt_of_le (ten_ltN n) (Nat.pow_le_pow_right (by decide) (by rw[hT8_eq];omega))
 exact⟨key _ (by omega),key _ (by omega)⟩
theorem scF_lt {A:Nat} {k:Int} (hA:A<2^bU) (hk : -2000≤k∧k≤2000):scF A k<2^(bU+hT8)∧scF A k+1<2^(bU+hT8+1)∧tnU k*kU<2^(hT8+bU):=by
 have h1:=mulN hA (tnO_lt hk).1
 have h2:scF A k≤A*tnO k:=Nat.div_le_self _ _
 have h3:=mulN (tnO_lt hk).2 kU_lt
 refine⟨by omega,?_,h3⟩
 rw[Nat.pow_succ]
 have:=Nat.one_le_two_pow (n:=bU+hT8)
 omega
theorem fr_low (A:Nat) (k:Int):(frD A (scF A k) k).natAbs=scR A k∧(frD A (scF A k+1) k).natAbs=tnU k*kU - scR A k:=by
 obtain⟨h1,h2⟩:=sc_eq A k
 unfold frD
 rw[h1,Nat.add_mul,Nat.mul_comm (scF A k),Nat.one_mul]
 generalize tnU k*kU*scF A k=T
 omega
theorem kU_kP:(2:Nat)^kP=kU:=by
 have h:kU=pU kP:=by unfold kU;rw[kP_eq]
 rw[h]
 unfold pU
 exact Eq.refl _
theorem kP1_half:kU=2*2^kP1:=by
 rw[←kU_kP,show kP=kP1+1 by rw[kP_eq];rfl,Nat.pow_succ,Nat.mul_comm]
theorem uN_rd {a:Nat} {k m:Int} (hm:1≤m∧m≤3):uN a k m=rdN (fU a) k (neg a) m:=by
 obtain⟨e1,e2⟩:=sc_eq (fU a) k
 have hQ:=tnU_pos k
 obtain⟨h,hh⟩:∃ h,h=tnU k*2^kP1:=⟨_,rfl⟩
 have hQh:tnU k*kU=2*h:=by rw[kP1_half,hh,←Nat.mul_assoc,Nat.mul_comm (tnU k) 2,Nat.mul_assoc]
 obtain⟨low,hlow⟩:∃ low,low=scF (fU a) k:=⟨_,rfl⟩
 obtain⟨r,hr⟩:∃ r,r=scR (fU a) k:=⟨_,rfl⟩
 obtain⟨P,hP⟩:∃ P,P=fU a*tnO k:=⟨_,rfl⟩
 obtain⟨T,hT⟩:∃ T,T=h*low:=⟨_,rfl⟩
 have eP:P=2*T+r:=by rw[hP,e1,hQh,←hlow,←hr,hT,Nat.mul_assoc]
 have hX:∀ Z:Int,unX Z (tnO k) (tnU k)=decide (Z*(tnO k:Int) % ((2*h:Nat):Int)=0):=fun Z=>by unfold unX;rw[kU_kP,hQh]
 have hF:∀ Z:Int,unF Z (tnO k) (tnU k)=Z*(tnO k:Int) / ((2*h:Nat):Int):=fun Z=>by unfold unF;rw[kU_kP,hQh]
 have hA:∀ (Z:Int) (F:Int),unF Z (tnO k) (tnU k)=F→unA Z (tnO k) (tnU k)=(decide ((F*2+1)*(h:Int)<Z*(tnO k:Int))||(decide ((F*2+1)*(h:Int)=Z*(tnO k:Int))&&decide (F % 2=1))):=fun Z F e=>by
  unfold unA
  rw[e,Int.mul_assoc,←Int.natCast_mul,←hh]
 have hE:scE (fU a) k=decide (r=0):=by unfold scE;rw[hr];rfl
 have hU:rdU (fU a) k (neg a) m=if m=2 then decide (2*h<2*r)||(decide (2*r=2*h)&&decide (low % 2=1))else if m=3 then !(neg a)else neg a:=by unfold rdU;rw[hQh,←hr,←hlow]
 unfold rdN
 rw[hE,hU,←hlow]
 rw[←hr,hQh] at e2
 have hdm:P / (2*h)=low∧P % (2*h)=r:=by
  have h1:P=2*h*low+r:=by rw[eP,hT,Nat.mul_assoc]
  exact⟨by rw[h1,Nat.mul_add_div (by omega),Nat.div_eq_of_lt e2,Nat.add_zero],by rw[h1,Nat.mul_add_mod,Nat.mod_eq_of_lt e2]⟩
 have eT:((low:Int)*2+1)*(h:Int)=((2*T+h:Nat):Int):=by
  rw[hT]
  push_cast
  grind
 have hlo:((h*low:Nat):Int)=(h:Int)*(low:Int):=by push_cast;rfl
 unfold uN unR unP
 cases hn:neg a
 ·have eZ:sZ a*(tnO k:Int)=(P:Int):=by unfold sZ;rw[hn,if_neg (by decide),hP,Int.natCast_mul]
  have eF:unF (sZ a) (tnO k) (tnU k)=(low:Int):=by rw[hF,eZ,←Int.natCast_ediv,hdm.1]
  have eX:unX (sZ a) (tnO k) (tnU k)=decide (r=0):=by
   rw[hX,eZ]
   have:((P:Int) % ((2*h:Nat):Int))=(r:Int):=by rw[←Int.natCast_emod,hdm.2]
   rw[this]
   by_cases h0:r=0
   ·rw[decide_eq_true h0,decide_eq_true (by omega)]
   ·rw[decide_eq_false h0,decide_eq_false (by omega)]
  rw[eX,hA _ _ eF,eF,eZ,eT]
  by_cases h0:r=0
  ·rw[decide_eq_true h0]
   simp
  ·rw[decide_eq_false h0]
   rcases(by omega:m=1∨m=2∨m=3)with rfl|rfl|rfl
   ·simp
   ·have c1:decide (((2*T+h:Nat):Int)<(P:Int))=decide (2*h<2*r):=by
     by_cases c:h<r
     ·rw[decide_eq_true (by omega),decide_eq_true (by omega)]
     ·rw[decide_eq_false (by omega),decide_eq_false (by omega)]
    have c2:decide (((2*T+h:Nat):Int)=(P:Int))=decide (2*r=2*h):=by
     by_cases c:r=h
     ·rw[decide_eq_true (by omega),decide_eq_true (by omega)]
     ·rw[decide_eq_false (by omega),decide_eq_false (by omega)]
    have c3:decide ((low:Int) % 2=1)=decide (low % 2=1):=by
     by_cases c:low % 2=1
     ·rw[decide_eq_true c,decide_eq_true (by omega)]
     ·rw[decide_eq_false c,decide_eq_false (by omega)]
    rw[c1,c2,c3]
    simp only[Bool.not_false,Bool.true_and,show((2:Int)=3)=False by simp,decide_false,Bool.false_or,decide_true,if_true,Bool.false_eq_true,if_false]
    split <;> omega
   ·simp
    omega
 ·have eZ:sZ a*(tnO k:Int) = -(P:Int):=by unfold sZ;rw[hn,if_pos rfl,hP,Int.natCast_mul,Int.neg_mul]
  by_cases h0:r=0
  ·have eF:unF (sZ a) (tnO k) (tnU k) = -(low:Int):=by
    rw[hF,eZ]
    refine Int.ediv_eq_of_eq_mul_right (by omega) ?_
    have:P=2*h*low:=by rw[eP,h0,hT,Nat.mul_assoc];rfl
    rw[this]
    push_cast
    grind
   have eX:unX (sZ a) (tnO k) (tnU k)=true:=by
    rw[hX,eZ]
    refine decide_eq_true ?_
    have:P=2*h*low:=by rw[eP,h0,hT,Nat.mul_assoc];rfl
    rw[this]
    refine Int.emod_eq_zero_of_dvd ⟨-(low:Int),?_⟩
    push_cast
    grind
   rw[eX,eF,decide_eq_true h0]
   simp
  ·have eF:unF (sZ a) (tnO k) (tnU k) = -((low:Int)+1):=by
    rw[hF,eZ]
    have h7 : -(P:Int)=((2*h:Nat):Int)*(-((low:Int)+1))+((2*h - r:Nat):Int):=by
     have h8:((2*h - r:Nat):Int)=2*(h:Int) - (r:Int):=by omega
     rw[h8,eP,hT]
     push_cast
     grind
    rw[h7,Int.mul_add_ediv_left _ _ (by omega),Int.ediv_eq_zero_of_lt (by omega) (by omega),Int.add_zero]
   have eX:unX (sZ a) (tnO k) (tnU k)=false:=by
    rw[hX,eZ]
    refine decide_eq_false fun h9=>?_
    have h10:=Int.dvd_of_emod_eq_zero h9
    rw[Int.dvd_neg,Int.natCast_dvd_natCast] at h10
    have:=Nat.mod_eq_zero_of_dvd h10
    omega
   have eT2:(-((low:Int)+1)*2+1)*(h:Int) = -((2*T+h:Nat):Int):=by
    rw[←eT]
    grind
   rw[eX,hA _ _ eF,eF,eZ,eT2,decide_eq_false h0]
   rcases(by omega:m=1∨m=2∨m=3)with rfl|rfl|rfl
   ·simp
    omega
   ·have c1:decide (-((2*T+h:Nat):Int) < -(P:Int))=decide (r<h):=by
     by_cases c:r<h
     ·rw[decide_eq_true c,decide_eq_true (by omega)]
     ·rw[decide_eq_false c,decide_eq_false (by omega)]
    have c2:decide (-((2*T+h:Nat):Int) = -(P:Int))=decide (r=h):=by
     by_cases c:r=h
     ·rw[decide_eq_true c,decide_eq_true (by omega)]
     ·rw[decide_eq_false c,decide_eq_false (by omega)]
    have c3:decide (-((low:Int)+1) % 2=1) = !decide (low % 2=1):=by
     by_cases c:low % 2=1
     ·rw[decide_eq_true c,decide_eq_false (by omega)];rfl
     ·rw[decide_eq_false c,decide_eq_true (by omega)];rfl
    rw[c1,c2,c3]
    simp only[Bool.not_false,Bool.true_and,show((2:Int)=3)=False by simp,decide_false,Bool.false_or,decide_true,if_true,Bool.false_eq_true,if_false]
    rcases(by omega:r<h∨r=h∨h<r)with c|c|c
    ·rw[decide_eq_true c,decide_eq_false (show ¬ 2*h<2*r by omega),decide_eq_false (show ¬ 2*r=2*h by omega)]
     simp
     omega
    ·rw[decide_eq_false (show ¬ r<h by omega),decide_eq_true c,decide_eq_false (show ¬ 2*h<2*r by omega),decide_eq_true (show 2*r=2*h by omega)]
     by_cases c4:low % 2=1
     ·rw[decide_eq_true c4];simp;omega
     ·rw[decide_eq_false c4];simp;omega
    ·rw[decide_eq_false (show ¬ r<h by omega),decide_eq_false (show ¬ r=h by omega),decide_eq_true (show 2*h<2*r by omega)]
     simp
     omega
   ·simp
    omega
theorem d4word_nan (F:Nat) (s:Bool) (w:World)
  (ks:∀ W,Calls Tryz.prog 80 #[.float .f64 F] W fun r w'=>r=.returned (.bool s)∧w'=W)
  (o1:(FloatKind.f64.format.order F F != some Ordering.eq)=true) :
  Calls Tryz.prog 27 #[.float .f64 F] w fun r w'=>r=.returned (.tuple #[.string ⟨#[110,97,110]⟩,.bool true])∧w'=w:=by
 cases s
 all_goals
  go_enter Tryz.func27,Tryz.ntmps27
  go_wp2_with (go_at_call 80;refine(ks _).mono ?_;rintro r w' ⟨rfl,hw⟩;replace hw:=hw.symm;subst hw)
  refine bodyPost_ret (results_tmp2 rfl _ _ _) rfl ?_
  exact⟨rfl,rfl⟩
theorem d4word_inf (F:Nat) (s:Bool) (w:World)
  (ks:∀ W,Calls Tryz.prog 80 #[.float .f64 F] W fun r w'=>r=.returned (.bool s)∧w'=W)
  (o1:(FloatKind.f64.format.order F F != some Ordering.eq)=false)
  (o23:(FloatKind.f64.format.order F 9218868437227405311==some Ordering.gt)=true∨((FloatKind.f64.format.order F 9218868437227405311==some Ordering.gt)=false∧(FloatKind.f64.format.order F 18442240474082181119==some Ordering.lt)=true)) :
  Calls Tryz.prog 27 #[.float .f64 F] w fun r w'=>r=.returned (.tuple #[.string ⟨(sgL s [105,110,102]).toArray⟩,.bool true])∧w'=w:=by
 have h1:(⟨#[]⟩:ByteArray).size+(⟨#[105,110,102]⟩:ByteArray).size≤9223372036854775807:=by
  rw[show(⟨#[]⟩:ByteArray).size=0 from rfl,show(⟨#[105,110,102]⟩:ByteArray).size=3 from rfl];omega
 have h2:(⟨#[45]⟩:ByteArray).size+(⟨#[105,110,102]⟩:ByteArray).size≤9223372036854775807:=by
  rw[show(⟨#[45]⟩:ByteArray).size=1 from rfl,show(⟨#[105,110,102]⟩:ByteArray).size=3 from rfl];omega
 have e1:(⟨#[]⟩:ByteArray)++⟨#[105,110,102]⟩=⟨#[105,110,102]⟩:=bytes_cat [] [105,110,102]
 have e2:(⟨#[45]⟩:ByteArray)++⟨#[105,110,102]⟩=⟨#[45,105,110,102]⟩:=bytes_cat [45] [105,110,102]
 rcases o23 with o2|⟨o2,o3⟩
 all_goals
  cases s
  all_goals
   go_enter Tryz.func27,Tryz.ntmps27
   go_wp2_with (go_at_call 80;refine(ks _).mono ?_;rintro r w' ⟨rfl,hw⟩;replace hw:=hw.symm;subst hw)
   refine bodyPost_ret (results_tmp2 rfl _ _ _) rfl ?_
   refine⟨?_,rfl⟩
   first|(rw[←e2];rfl)|(rw[←e1];rfl)|rfl
theorem d4abs {a:Nat} (ha:a<18446744073709551616) (w:World):Calls Tryz.prog 35 #[.float .f64 a] w fun r w'=>OutQ w (un ((fU a:Nat):Int) 1074) r w':=by
 have hm:=mag_lt' a ha
 have e:sU (mag a)=((fU a:Nat):Int):=by
  unfold sU
  have h1:neg (mag a)=false:=by unfold neg mag;exact decide_eq_false (by omega)
  have h2:mag (mag a)=mag a:=by unfold mag;omega
  rw[h1,if_neg (by decide)]
  unfold fU Ie.mant Ie.lp
  rw[h2]
 obtain⟨W,hW⟩:∃ W,W=w.alloc (.cells #[.bool false,.slice none 0 0,.int .i64 0] 54):=⟨_,rfl⟩
 have HW:Hid (Bw w W∧W.heap[w.heap.size]?=some (.cells #[.bool false,.slice none 0 0,.int .i64 0] 54 (0,0))):=⟨by rw[hW];exact(Below.refl _ _).alloc (Nat.le_refl _) _,by rw[hW];exact heap_alloc_new _ _⟩
 have ka:=fun V=>c159 a ha V
 have kf:=fun V=>dfloatU (a:=mag a) hm V
 rw[e] at kf
 clear e
 go_enter Tryz.func35,Tryz.ntmps35
 go_upto_region 1 with fail
 rw[←hW]
 clear hW
 go_wp2_with (go_at_call 17;refine(ka _).mono ?_;rintro r w' ⟨rfl,hw⟩;replace hw:=hw.symm;subst hw)
 refine(kf _).mono ?_
 rintro r w1 ⟨A,rfl,hA,hb⟩
 obtain⟨s1,ao1,n1,cp1,e1,rfl⟩:=hA.shape
 have HB:Hid (Bw w w1∧w1.heap[w.heap.size]?=some (.cells #[.bool false,.slice none 0 0,.int .i64 0] 54 (0,0))∧DN w1 (.agg #[.bool s1,.slice ao1 n1 cp1,.int .i64 e1]) (un ((fU a:Nat):Int) 1074)):=⟨HW.out.1.trans (hb.mono HW.out.1.size),box_later HW.out.2 hb (lt_of_box HW.out.2),hA⟩
 clear ka kf hA hb HW
 obtain⟨⟨d0,d1,d2⟩,f0,f1,f2⟩:=box_cells29 HB.out.2.1
 go_wp2_with fail
 refine bodyPost_ret (results_cell_row rfl _ _ (w.heap.size) 54 #[.bool s1,.slice ao1 n1 cp1,.int .i64 e1] (0,0) _ rfl (store3_29 _ _ _ HB.out.2.1) Tryz.underlying54 rfl Tryz.info54) rfl ?_
 exact⟨_,_,_,_,_,rfl,HB.out.2.2.storeQ HB.out.2.1 _ _ _,below_store3 HB.out.1 (Nat.le_refl _) _ _ _⟩
theorem d4pt_a0 (d:List UInt8) (p:Int) (w:World) (hd:d.length≤20000) (hp:p=0) (hl:¬ d = []):Calls Tryz.prog 40 #[.string ⟨d.toArray⟩,.int .i64 p] w fun r w'=>r=.returned (.string ⟨d.toArray⟩)∧Bw w w':=by
 subst hp
 have hsz:(⟨d.toArray⟩:ByteArray).size=d.length:=rfl
 go_enter Tryz.func40,Tryz.ntmps40
 go_wp2
 go_ret
 exact⟨rfl,Below.refl _ _⟩
theorem d4pt_a (E:List UInt8) (p:Int) (q:Nat) (w:World) (hd:E.length≤50000) (hp:¬ p=0) (hp0:0≤p) (hp2:p≤20000) (hl:¬ (E.length:Int)≤p) (hq:Hid ((E.length:Int) - p=(q:Int))) :
  Calls Tryz.prog 40 #[.string ⟨E.toArray⟩,.int .i64 p] w fun r w'=>r=.returned (.string ⟨(E.take q++46 :: E.drop q).toArray⟩)∧Bw w w':=by
 have hszE:(⟨E.toArray⟩:ByteArray).size=E.length:=rfl
 have hw3:IntKind.i64.wrap ((E.length:Int) - p)=(q:Int):=by rw[hq.out,IntKind.wrap_i64];have:=hq.out;omega
 have hqE:(q:Int)≤(E.length:Int):=by have:=hq.out;omega
 have hqE':q≤E.length:=by omega
 have HQ:Hid (q≤E.length∧E.length≤60000):=⟨hqE',by omega⟩
 have hc2:((⟨E.toArray⟩:ByteArray).extract 0 q).size+(⟨#[46]⟩:ByteArray).size≤9223372036854775807:=by
  rw[ext_take,bsz,List.length_take,show(⟨#[46]⟩:ByteArray).size=1 from rfl];have:=HQ.out;omega
 have hc3:((⟨E.toArray⟩:ByteArray).extract 0 q++⟨#[46]⟩).size+((⟨E.toArray⟩:ByteArray).extract q E.length).size≤9223372036854775807:=by
  rw[ext_take,ext_drop,show(⟨#[46]⟩:ByteArray)=⟨[46].toArray⟩from rfl,bytes_cat,bsz,bsz,List.length_append,List.length_take,List.length_drop];have:=HQ.out;simp;omega
 have hq0:(0:Int)≤(q:Int):=by omega
 have HB:Hid (Bw w w):=Below.refl _ _
 have hp9:(p==0)=false:=by rw[beq_eq_false_iff_ne];exact hp
 clear hp
 go_enter Tryz.func40,Tryz.ntmps40
 go_upto_region 5 with fail
 go_quiet (fail)
 go_wp2
 go_ret
 refine⟨?_,bdrewN HB.out nq⟩
 show Ending.returned (Value.string _)=Ending.returned (Value.string _)
 rw[ext_take,ext_drop,show(⟨#[46]⟩:ByteArray)=⟨[46].toArray⟩from rfl,bytes_cat,bytes_cat,List.append_assoc]
 rfl
theorem d4pt_b (d E:List UInt8) (p:Int) (q:Nat) (w:World) (hd:d.length≤20000) (hp:¬ p=0) (hp0:0≤p) (hp2:p≤20000) (hl:(d.length:Int)≤p) (hE:Hid (E=nzL (p+1 - d.length)++d)) (hq:Hid ((E.length:Int) - p=(q:Int))) :
  Calls Tryz.prog 40 #[.string ⟨d.toArray⟩,.int .i64 p] w fun r w'=>r=.returned (.string ⟨(E.take q++46 :: E.drop q).toArray⟩)∧Bw w w':=by
 have hsz:(⟨d.toArray⟩:ByteArray).size=d.length:=rfl
 have hw1:IntKind.i64.wrap (p+1)=p+1:=by rw[IntKind.wrap_i64];omega
 have hw2:IntKind.i64.wrap (p+1 - (d.length:Int))=p+1 - (d.length:Int):=by rw[IntKind.wrap_i64];omega
 have kk:=d4nz (p+1 - (d.length:Int)) w (by omega)
 have l1:=nzL_len (p+1 - (d.length:Int))
 have lE:E.length=(p+1 - (d.length:Int)).toNat+d.length:=by rw[hE.out,List.length_append,l1]
 have hc1:(⟨(nzL (p+1 - (d.length:Int))).toArray⟩:ByteArray).size+d.length≤9223372036854775807:=by simp only[bsz];omega
 have eC:(⟨(nzL (p+1 - (d.length:Int))).toArray⟩:ByteArray)++⟨d.toArray⟩=⟨E.toArray⟩:=by rw[bytes_cat,←hE.out]
 have hszE:(⟨E.toArray⟩:ByteArray).size=E.length:=rfl
 have hw3:IntKind.i64.wrap ((E.length:Int) - p)=(q:Int):=by rw[hq.out,IntKind.wrap_i64];have:=hq.out;omega
 have hqE:(q:Int)≤(E.length:Int):=by have:=hq.out;omega
 have hqE':q≤E.length:=by omega
 have HQ:Hid (q≤E.length∧E.length≤60000):=⟨hqE',by omega⟩
 have hc2:((⟨E.toArray⟩:ByteArray).extract 0 q).size+(⟨#[46]⟩:ByteArray).size≤9223372036854775807:=by
  rw[ext_take,bsz,List.length_take,show(⟨#[46]⟩:ByteArray).size=1 from rfl];have:=HQ.out;omega
 have hc3:((⟨E.toArray⟩:ByteArray).extract 0 q++⟨#[46]⟩).size+((⟨E.toArray⟩:ByteArray).extract q E.length).size≤9223372036854775807:=by
  rw[ext_take,ext_drop,show(⟨#[46]⟩:ByteArray)=⟨[46].toArray⟩from rfl,bytes_cat,bsz,bsz,List.length_append,List.length_take,List.length_drop];have:=HQ.out;simp;omega
 have hq0:(0:Int)≤(q:Int):=by omega
 have hp9:(p==0)=false:=by rw[beq_eq_false_iff_ne];exact hp
 clear hp l1 lE
 go_enter Tryz.func40,Tryz.ntmps40
 go_wp2_with fail
 refine kk.mono ?_
 rintro r w1 ⟨rfl,hb1⟩
 have HB:Hid (Bw w w1):=hb1
 clear kk hb1
 go_upto_region 5 with fail
 go_quiet (fail)
 go_wp2
 go_ret
 refine⟨?_,bdrewN HB.out nq⟩
 show Ending.returned (Value.string _)=Ending.returned (Value.string _)
 rw[ext_take,ext_drop,show(⟨#[46]⟩:ByteArray)=⟨[46].toArray⟩from rfl,bytes_cat,bytes_cat,List.append_assoc]
 rfl
theorem d4pointed (d:List UInt8) (p:Int) (w:World) (hd:d.length≤20000) (hd0:1≤d.length) (hp:0≤p∧p≤20000):Calls Tryz.prog 40 #[.string ⟨d.toArray⟩,.int .i64 p] w fun r w'=>r=.returned (.string ⟨(ptL d p).toArray⟩)∧Bw w w':=by
 have l1:=nzL_len (p+1 - (d.length:Int))
 have lE:(nzL (p+1 - d.length)++d).length=(p+1 - (d.length:Int)).toNat+d.length:=by rw[List.length_append,l1]
 by_cases hl:(d.length:Int)≤p
 ·by_cases h0:p=0
  ·exfalso;omega
  ·have k:=d4pt_b d (nzL (p+1 - d.length)++d) p ((nzL (p+1 - d.length)++d).length - p.toNat) w hd h0 hp.1 hp.2 hl rfl (by show _=_;omega)
   unfold ptL
   rw[if_neg (by omega)]
   exact k
 ·by_cases h0:p=0
  ·have h:=d4pt_a0 d p w hd h0 (by intro h;rw[h] at hd0;simp at hd0)
   subst h0
   have e:ptL d 0=d:=by
    unfold ptL
    rw[if_pos (by decide),show nzL (1 - (d.length:Int)) = [] by unfold nzL;rw[show(1 - (d.length:Int)).toNat=0 by omega];rfl,show nzL (-0) = [] from rfl,List.append_nil,List.nil_append]
   rw[e]
   exact h
  ·have e:nzL (p+1 - d.length)++d=d:=by unfold nzL;rw[show(p+1 - (d.length:Int)).toNat=0 by omega];rfl
   have k:=d4pt_a d p (d.length - p.toNat) w (by omega) h0 hp.1 hp.2 hl (by show _=_;omega)
   unfold ptL
   rw[if_neg (by omega),e]
   exact k
theorem pt_dcD (N:Nat) {p:Int} (hp:0≤p):ptL (dcD N) p=ptL (dcR N) p:=by
 unfold dcD
 by_cases h0:N=0
 ·subst h0
  rw[if_pos rfl,dcR_0]
  have e:nzL (p+1 - (([48]:List UInt8).length:Int)) ++ [48]=nzL (p+1 - (([]:List UInt8).length:Int)) ++ []:=by
   unfold nzL
   rw[List.append_nil,show(p+1 - (([]:List UInt8).length:Int)).toNat=(p+1 - (([48]:List UInt8).length:Int)).toNat+1 by simp;omega,List.replicate_succ']
  unfold ptL
  by_cases h1:p≤0
  ·obtain rfl:p=0:=by omega
   rfl
  ·rw[if_neg h1,if_neg h1,e]
 ·rw[if_neg h0]
theorem cls_nan {a:Nat} (hf:9218868437227405312<mag a):cls a=1:=by
 unfold cls
 rw[if_pos (by omega)]
theorem cls_inf {a:Nat} (hf:mag a=9218868437227405312):cls a=2∧cneg a=neg a:=by
 have h1:¬ (9218868437227405312:Int)<(mag a:Int):=by omega
 unfold cls cneg
 rw[if_neg h1,if_neg h1]
 have h2:((mag a:Int)==9218868437227405312)=true:=by rw[beq_iff_eq];omega
 rw[h2]
 exact⟨by simp,rfl⟩
theorem word_o1 {a:Nat} (ha:a<18446744073709551616) (h:mag a=9218868437227405312):(FloatKind.f64.format.order a a != some Ordering.eq)=false∧((FloatKind.f64.format.order a 9218868437227405311==some Ordering.gt)=true∨((FloatKind.f64.format.order a 9218868437227405311==some Ordering.gt)=false∧(FloatKind.f64.format.order a 18442240474082181119==some Ordering.lt)=true)):=by
 have e1:stp 9218868437227405311=9218868437227405311:=by decide
 have e2:stp 18442240474082181119 = -9218868437227405311:=by decide
 have hn:isNaN a=false:=by unfold isNaN;exact decide_eq_false (by omega)
 have hs:stp a=if neg a then -(mag a:Int) else(mag a:Int):=by unfold stp sgn;rfl
 have o1:=ord_eq a a ha ha
 have o2:=ord_gt a 9218868437227405311 ha (by decide)
 have o3:=ord_lt a 18442240474082181119 ha (by decide)
 unfold eq at o1
 unfold lt at o2 o3
 rw[e1] at o2
 rw[e2] at o3
 rw[hn] at o1 o2 o3
 rw[hs,h] at o2 o3
 refine⟨?_,?_⟩
 ·show(!(FloatKind.f64.format.order a a==some Ordering.eq))=false
  rw[o1]
  simp
 ·cases hg:neg a
  ·rw[hg] at o2
   exact .inl (by rw[o2];decide)
  ·rw[hg] at o2 o3
   exact .inr ⟨by rw[o2];decide,by rw[o3];decide⟩
theorem word_on {a:Nat} (ha:a<18446744073709551616) (h:9218868437227405312<mag a):(FloatKind.f64.format.order a a != some Ordering.eq)=true:=by
 have hn:isNaN a=true:=by unfold isNaN;exact decide_eq_true (by omega)
 have o1:=ord_eq a a ha ha
 unfold eq at o1
 rw[hn] at o1
 show(!(FloatKind.f64.format.order a a==some Ordering.eq))=true
 rw[o1]
 rfl
theorem sg_two (s:Bool) (t:List UInt8):(if s then(⟨#[45]⟩:ByteArray) else⟨#[]⟩)++⟨t.toArray⟩=⟨(sgL s t).toArray⟩:=by
 cases s
 ·exact bytes_cat [] t
 ·exact bytes_cat [45] t
theorem dcD_len {N b:Nat} (h:N<2^b):(dcD N).length≤18*(b / 59+1)∧1≤(dcD N).length:=by
 unfold dcD
 by_cases h0:N=0
 ·rw[if_pos h0];simp;omega
 ·rw[if_neg h0]
  have h1:=dcT_len h
  rw[dcT_eq] at h1
  refine⟨h1,?_⟩
  rcases Nat.lt_or_ge 0 (dcR N).length with h2|h2
  ·exact h2
  ·exact absurd (dcR_nil.1 (List.length_eq_zero_iff.1 (by omega))) h0
theorem d4Place_1 (s0:Bool) (ao0:Option Addr) (n0 cp0:Nat) (e0:Int) (hh x0 X:Int) (ta tw1 tw2:Bool×Nat×Int) (tS:Int→Bool×Nat×Int) (bS:Int→Bool) (c1 c2:Int→Int) (w:World) (hA:DN w (.agg #[.bool s0,.slice ao0 n0 cp0,.int .i64 e0]) ta)
  (hh1 : -5000≤hh∧hh≤5000) (hx0:Int.tdiv ((hh - 1)*30103) 100000=x0) (hxb:Hid (-400≤x0∧x0≤400 ∧ -400≤X∧X≤400))
  (kH:∀ W A,DN W A ta→Calls Tryz.prog 44 #[A] W fun r w'=>r=.returned (.int .i64 hh)∧Bw W w')
  (kS:Hid (∀ x,-400≤x→x≤400→∀ W A,DN W A ta→Calls Tryz.prog 82 #[A,.int .i64 (-x+1)] W fun r w'=>OutS W (tS x) (bS x) r w'))
  (kW1:Hid (∀ W,Calls Tryz.prog 46 #[.int .i64 10] W fun r w'=>OutQ W tw1 r w'))
  (kW2:Hid (∀ W,Calls Tryz.prog 46 #[.int .i64 100] W fun r w'=>OutQ W tw2 r w'))
  (kO1:Hid (∀ x,-400≤x→x≤400→∀ W A B,DN W A (tS x)→DN W B tw1→Calls Tryz.prog 49 #[A,B] W fun r w'=>r=.returned (.int .i64 (c1 x))∧Bw W w'))
  (kO2:Hid (∀ x,-400≤x→x≤400→∀ W A B,DN W A (tS x)→DN W B tw2→Calls Tryz.prog 49 #[A,B] W fun r w'=>r=.returned (.int .i64 (c2 x))∧Bw W w'))
  (hc:Hid (∀ x,-400≤x→x≤400→(X<x→c1 x<0)∧(x<X→0≤c1 x∧0≤c2 x)∧(x=X→0≤c1 x∧c2 x<0))) :
  Calls Tryz.prog 81 #[.agg #[.bool s0,.slice ao0 n0 cp0,.int .i64 e0]] w fun r w'=>r=.returned (.int .i64 X)∧Bw w w':=by
 obtain⟨W,hW⟩:∃ W,W=w.alloc (.cells #[.bool s0,.slice ao0 n0 cp0,.int .i64 e0] 54):=⟨_,rfl⟩
 have H0:Hid (NbQ W w.heap.size s0 ao0 n0 cp0 e0 ta∧Bw w W):=by
  have hb:Bw w W:=by rw[hW];exact(Below.refl _ _).alloc (Nat.le_refl _) _
  exact⟨⟨by rw[hW];exact heap_alloc_new _ _,hA.later hb⟩,hb⟩
 obtain⟨⟨c0,c1',c2'⟩,-⟩:=box_cells29 H0.out.1.1
 have q1:=kH W _ H0.out.1.2
 have u1:IntKind.i64.wrap (hh - 1)=hh - 1:=by rw[IntKind.wrap_i64];omega
 have u2:IntKind.i64.wrap ((hh - 1)*30103)=(hh - 1)*30103:=by rw[IntKind.wrap_i64];omega
 have u3:IntKind.i64.wrap x0=x0:=by have:=hxb.out;rw[IntKind.wrap_i64];omega
 clear kH hA
 go_enter Tryz.func81,Tryz.ntmps81
 go_upto_region 1 with fail
 rw[←hW]
 clear hW
 go_wp2_with fail
 refine q1.mono ?_
 rintro r w1 ⟨rfl,hb1⟩
 have H1:Hid (NbQ w1 w.heap.size s0 ao0 n0 cp0 e0 ta∧Bw w w1):=⟨H0.out.1.later hb1,H0.out.2.trans (hb1.mono H0.out.2.size)⟩
 clear q1 hb1 H0 c0 c1' c2' hh1
 go_wp2_with fail
 clear u1 u2 u3 hx0
 go_loopw [3] (fun v wr=>∃ x:Int,v=.int .i64 x ∧ -400≤x∧x≤400∧Hid (NbQ wr w.heap.size s0 ao0 n0 cp0 e0 ta∧Bw w wr)) (fun v _=>(intOf v - X).natAbs)
 case atStart=>exact⟨x0,rfl,hxb.out.1,hxb.out.2.1,H1⟩
 case round =>
  obtain⟨x,rfl,hx1,hx2,HI⟩:=hrel
  clear H1
  obtain⟨⟨c0,c1',c2'⟩,-⟩:=box_cells29 HI.out.1.1
  have q1:=kS.out x hx1 hx2 wr _ HI.out.1.2
  have u1:IntKind.i64.wrap (-x) = -x:=by rw[IntKind.wrap_i64];omega
  have u2:IntKind.i64.wrap (-x+1) = -x+1:=by rw[IntKind.wrap_i64];omega
  have u3:IntKind.i64.wrap (x - 1)=x - 1:=by rw[IntKind.wrap_i64];omega
  have u4:IntKind.i64.wrap (x+1)=x+1:=by rw[IntKind.wrap_i64];omega
  have hx1:Hid (-400≤x∧x≤400):=⟨hx1,hx2⟩
  clear hx2
  go_upto_region 2 with fail
  go_wp2_with fail
  refine q1.mono ?_
  rintro r w2 ⟨s1,ao1,n1,cp1,e1,rfl,hd2,hb2⟩
  obtain⟨V,hV⟩:∃ V,V=w2.alloc (.cells #[.bool s1,.slice ao1 n1 cp1,.int .i64 e1] 54):=⟨_,rfl⟩
  obtain⟨g4,hg4⟩:∃ g4,g4=w2.heap.size:=⟨_,rfl⟩
  have H2:Hid (NbQ V w.heap.size s0 ao0 n0 cp0 e0 ta∧NbQ V g4 s1 ao1 n1 cp1 e1 (tS x)∧Bw w V):=by
   have hbV:Bw w2 V:=by rw[hV];exact(Below.refl _ _).alloc (Nat.le_refl _) _
   have hb:=hb2.trans (hbV.mono hb2.size)
   exact⟨HI.out.1.later hb,⟨by rw[hV,hg4];exact heap_alloc_new _ _,hd2.later hbV⟩,HI.out.2.trans (hb.mono HI.out.2.size)⟩
  clear q1 hd2 hb2 HI c0 c1' c2'
  go_upto_region 4 with fail
  rw[←hV,←hg4]
  clear hV hg4
  obtain⟨b1,hb1⟩:∃ b1,b1=decide (c1 x<0):=⟨_,rfl⟩
  have hbe1:decide (c1 x<0)=b1:=hb1.symm
  have HB1:Hid (b1=decide (c1 x<0)):=hb1
  clear hb1
  refine r_region [0,1,2,3,4] [21,22,23,24,20] [[],[],[0,1],[2],[3]] V _ [isV (.agg #[.bool s1,.slice ao1 n1 cp1,.int .i64 e1]),isD tw1,isV (.int .i64 (c1 x)),isV (.bool b1),isV (.bool b1)] (by kernel_rfl) ⟨isV_stays _,isD_stays _,isV_stays _,isV_stays _,isV_stays _,trivial⟩ (by show ∀ s ∈ [21,22,23,24,20],s<34;decide) ?_ ?_
  ·intro j hj o ho act U hb hoth hdep
   have hj':j<5:=hj
   have t4':act.tmps[(4:Nat)]?=some (Value.pointer (some ⟨g4,0,none⟩)):=(hoth 4 (by decide)).trans rfl
   have d4:=(box_cells29 (H2.out.2.1.later hb).1).1
   rcases(by omega:j=0∨j=1∨j=2∨j=3∨j=4)with rfl|rfl|rfl|rfl|rfl
   ·obtain rfl:=Option.some.inj ho
    exact .inl ⟨rfl,owp_ldD rfl t4' d4.1 d4.2.1 d4.2.2 ⟨_,rfl,rfl,Below.refl _ _⟩⟩
   ·obtain rfl:=Option.some.inj ho
    refine .inl ⟨rfl,owp_call rfl (enters Tryz.func46 (by kernel_rfl) (by kernel_rfl)) (vs:=#[(Value.int IntKind.i64 10)]) (by simp[eval_cst]) ?_⟩
    refine(kW1.out U).mono ?_
    rintro r w' ⟨s9,ao9,n9,cp9,e9,rfl,hA9,hb'⟩
    exact⟨_,rfl,_,rfl,hA9,hb'⟩
   ·obtain rfl:=Option.some.inj ho
    have y0:act.tmps[(21:Nat)]?=_:=dV (hdep 0 (by simp[dL])) rfl
    obtain⟨u1,y10,v1⟩:=hdep 1 (by simp[dL])
    have y1:act.tmps[(22:Nat)]?=_:=y10
    refine .inl ⟨rfl,owp_call rfl (enters Tryz.func49 (by kernel_rfl) (by kernel_rfl)) (vs:=#[.agg #[.bool s1,.slice ao1 n1 cp1,.int .i64 e1],u1]) (by simp[eval_get y0,eval_get y1]) ?_⟩
    refine(kO1.out x hx1.out.1 hx1.out.2 U _ _ (H2.out.2.1.later hb).2 v1).mono ?_
    rintro r w' ⟨rfl,hb'⟩
    exact⟨_,rfl,_,rfl,rfl,hb'⟩
   ·obtain rfl:=Option.some.inj ho
    have y2:act.tmps[(23:Nat)]?=_:=dV (hdep 2 (by simp[dL])) rfl
    exact .inl ⟨rfl,owp_run1 (w':=U) (by simp[execOp,y2,eval_cst,go_sem,hbe1]) ⟨_,rfl,rfl,Below.refl _ _⟩⟩
   ·obtain rfl:=Option.some.inj ho
    have y3:act.tmps[(24:Nat)]?=_:=dV (hdep 3 (by simp[dL])) rfl
    exact .inl ⟨rfl,owp_assign rfl y3 ⟨_,rfl,rfl,Below.refl _ _⟩⟩
  ·intro u W9 hb9 hu
   have u4:u 4=.bool b1:=hu 4 (by show 4<5;decide)
   clear hu
   simp only[putL,show List.range 5 = [0,1,2,3,4] from rfl,List.length_cons,List.length_nil,List.getD_cons_zero,List.getD_cons_succ,List.map_cons,List.map_nil,List.cons_append,List.nil_append,List.foldl_cons,List.foldl_nil,Nat.reduceLT,Nat.reduceMod,Nat.reduceDiv,Nat.reduceMul,Nat.reduceAdd,Nat.reduceEqDiff,reduceIte,Nat.one_ne_zero,Act.put,List.setIfInBounds_toArray,List.set_cons_zero,List.set_cons_succ]
   rw[u4]
   clear u4
   have H3:Hid (NbQ W9 w.heap.size s0 ao0 n0 cp0 e0 ta∧NbQ W9 g4 s1 ao1 n1 cp1 e1 (tS x)∧Bw w W9):=⟨H2.out.1.later hb9,H2.out.2.1.later hb9,H2.out.2.2.trans (hb9.mono H2.out.2.2.size)⟩
   clear hb9 H2 hbe1
   rcases(by cases b1 <;> simp:b1=true∨b1=false)with hE|hE
   ·subst hE
    have hxX:Hid (¬ x≤X):=(fun h=>by
     have h1:=hc.out x hx1.out.1 hx1.out.2
     have h2:c1 x<0:=of_decide_eq_true HB1.out.symm
     rcases(by omega:x<X∨x=X)with h3|h3
     ·have:=(h1.2.1 h3).1;omega
     ·have:=(h1.2.2 h3).1;omega:¬ x≤X)
    clear HB1
    go_wp2_with fail
    exact⟨⟨x - 1,rfl,by have:=hxX.out;have:=hxb.out;omega,by have:=hx1.out;omega,H3.out.1,H3.out.2.2⟩,by have:=hxX.out;simp[intOf];omega⟩
   ·subst hE
    have hxX:Hid (x≤X):=(by
     have h1:=hc.out x hx1.out.1 hx1.out.2
     have h2:¬ c1 x<0:=of_decide_eq_false HB1.out.symm
     exact Int.not_lt.1 fun h=>h2 (h1.1 h):x≤X)
    clear HB1
    go_upto_region 6 with fail
    obtain⟨V,hV⟩:∃ V,V=W9:=⟨_,rfl⟩
    rw[←hV] at H3 ⊢
    clear hV
    have H2:=H3
    clear H3
    obtain⟨b2,hb1⟩:∃ b2,b2=decide (0≤c2 x):=⟨_,rfl⟩
    have hbe1:decide (0≤c2 x)=b2:=hb1.symm
    have HB1:Hid (b2=decide (0≤c2 x)):=hb1
    clear hb1
    refine r_region [0,1,2,3,4] [28,29,30,31,27] [[],[],[0,1],[2],[3]] V _ [isV (.agg #[.bool s1,.slice ao1 n1 cp1,.int .i64 e1]),isD tw2,isV (.int .i64 (c2 x)),isV (.bool b2),isV (.bool b2)] (by kernel_rfl) ⟨isV_stays _,isD_stays _,isV_stays _,isV_stays _,isV_stays _,trivial⟩ (by show ∀ s ∈ [28,29,30,31,27],s<34;decide) ?_ ?_
    ·intro j hj o ho act U hb hoth hdep
     have hj':j<5:=hj
     have t4':act.tmps[(4:Nat)]?=some (Value.pointer (some ⟨g4,0,none⟩)):=(hoth 4 (by decide)).trans rfl
     have d4:=(box_cells29 (H2.out.2.1.later hb).1).1
     rcases(by omega:j=0∨j=1∨j=2∨j=3∨j=4)with rfl|rfl|rfl|rfl|rfl
     ·obtain rfl:=Option.some.inj ho
      exact .inl ⟨rfl,owp_ldD rfl t4' d4.1 d4.2.1 d4.2.2 ⟨_,rfl,rfl,Below.refl _ _⟩⟩
     ·obtain rfl:=Option.some.inj ho
      refine .inl ⟨rfl,owp_call rfl (enters Tryz.func46 (by kernel_rfl) (by kernel_rfl)) (vs:=#[(Value.int IntKind.i64 100)]) (by simp[eval_cst]) ?_⟩
      refine(kW2.out U).mono ?_
      rintro r w' ⟨s9,ao9,n9,cp9,e9,rfl,hA9,hb'⟩
      exact⟨_,rfl,_,rfl,hA9,hb'⟩
     ·obtain rfl:=Option.some.inj ho
      have y0:act.tmps[(28:Nat)]?=_:=dV (hdep 0 (by simp[dL])) rfl
      obtain⟨u1,y10,v1⟩:=hdep 1 (by simp[dL])
      have y1:act.tmps[(29:Nat)]?=_:=y10
      refine .inl ⟨rfl,owp_call rfl (enters Tryz.func49 (by kernel_rfl) (by kernel_rfl)) (vs:=#[.agg #[.bool s1,.slice ao1 n1 cp1,.int .i64 e1],u1]) (by simp[eval_get y0,eval_get y1]) ?_⟩
      refine(kO2.out x hx1.out.1 hx1.out.2 U _ _ (H2.out.2.1.later hb).2 v1).mono ?_
      rintro r w' ⟨rfl,hb'⟩
      exact⟨_,rfl,_,rfl,rfl,hb'⟩
     ·obtain rfl:=Option.some.inj ho
      have y2:act.tmps[(30:Nat)]?=_:=dV (hdep 2 (by simp[dL])) rfl
      exact .inl ⟨rfl,owp_run1 (w':=U) (by simp[execOp,y2,eval_cst,go_sem,hbe1]) ⟨_,rfl,rfl,Below.refl _ _⟩⟩
     ·obtain rfl:=Option.some.inj ho
      have y3:act.tmps[(31:Nat)]?=_:=dV (hdep 3 (by simp[dL])) rfl
      exact .inl ⟨rfl,owp_assign rfl y3 ⟨_,rfl,rfl,Below.refl _ _⟩⟩
    ·intro u W9 hb9 hu
     have u4:u 4=.bool b2:=hu 4 (by show 4<5;decide)
     clear hu
     simp only[putL,show List.range 5 = [0,1,2,3,4] from rfl,List.length_cons,List.length_nil,List.getD_cons_zero,List.getD_cons_succ,List.map_cons,List.map_nil,List.cons_append,List.nil_append,List.foldl_cons,List.foldl_nil,Nat.reduceLT,Nat.reduceMod,Nat.reduceDiv,Nat.reduceMul,Nat.reduceAdd,Nat.reduceEqDiff,reduceIte,Nat.one_ne_zero,Act.put,List.setIfInBounds_toArray,List.set_cons_zero,List.set_cons_succ]
     rw[u4]
     clear u4
     have H3:Hid (NbQ W9 w.heap.size s0 ao0 n0 cp0 e0 ta∧NbQ W9 g4 s1 ao1 n1 cp1 e1 (tS x)∧Bw w W9):=⟨H2.out.1.later hb9,H2.out.2.1.later hb9,H2.out.2.2.trans (hb9.mono H2.out.2.2.size)⟩
     clear hb9 H2 hbe1
     rcases(by cases b2 <;> simp:b2=true∨b2=false)with hE|hE
     ·subst hE
      have hxX2:Hid (x<X):=(by
       have h1:=hc.out x hx1.out.1 hx1.out.2
       have h2:0≤c2 x:=of_decide_eq_true HB1.out.symm
       rcases(by have:=hxX.out;omega:x<X∨x=X)with h3|h3
       ·exact h3
       ·have:=(h1.2.2 h3).2;omega:x<X)
      clear HB1
      go_wp2_with fail
      exact⟨⟨x+1,rfl,by have:=hx1.out;omega,by have:=hxX2.out;have:=hxb.out;omega,H3.out.1,H3.out.2.2⟩,by have:=hxX2.out;simp[intOf];omega⟩
     ·subst hE
      have hxX2:x=X:=by
       have h1:=hc.out x hx1.out.1 hx1.out.2
       have h2:¬ 0≤c2 x:=of_decide_eq_false HB1.out.symm
       rcases(by have:=hxX.out;omega:x<X∨x=X)with h3|h3
       ·have:=(h1.2.1 h3).2;omega
       ·exact h3
      have HX:Hid (x=X):=hxX2
      clear HB1 hxX2
      go_wp2_with fail
      go_ret
      exact⟨by rw[←HX.out];rfl,H3.out.2.2⟩
theorem scF_step (A:Nat) (k:Int):scF A k=scF A (k+1) / 10:=by
 unfold scF
 rw[Nat.div_div_eq_div_mul]
 rcases Int.lt_or_le k 0 with h|h
 ·have e1:tnO k=tnO (k+1):=by unfold tnO;rw[show k.toNat=0 by omega,show(k+1).toNat=0 by omega]
  have e2:tnU k=tnU (k+1)*10:=by unfold tnU;rw[show(-k).toNat=(-(k+1)).toNat+1 by omega,Nat.pow_succ]
  rw[e1,e2]
  generalize kU=K
  rw[Nat.mul_right_comm]
 ·have e1:tnO (k+1)=tnO k*10:=by unfold tnO;rw[show(k+1).toNat=k.toNat+1 by omega,Nat.pow_succ]
  have e2:tnU (k+1)=tnU k:=by unfold tnU;rw[show(-k).toNat=0 by omega,show(-(k+1)).toNat=0 by omega]
  rw[e1,e2]
  generalize kU=K
  rw[←Nat.mul_assoc,Nat.mul_div_mul_right _ _ (by decide)]
theorem scF_down (A:Nat) (k:Int):∀ j:Nat,scF A (k - (j:Int))=scF A k / 10^j
 | 0=>by simp
 | j+1=>by
  have h:=scF_step A (k - ((j+1:Nat):Int))
  rw[show k - ((j+1:Nat):Int)+1=k - (j:Int) by omega,scF_down A k j,Nat.div_div_eq_div_mul] at h
  rw[h,Nat.pow_succ]
def woZ (b:Nat):Int:=((b:Nat) - (kP:Int) - 1)*1262611 / 4194304
def woC (b:Nat):Bool:=Nat.ble (tnU (-woZ b)*kU) (2^(b - 1)*tnO (-woZ b))&&Nat.ble (2^b*tnO (-woZ b - 2)) (tnU (-woZ b - 2)*kU)
theorem wo_all:(List.range 2200).all (fun i=>woC (i+1))=true:=by decide +kernel
theorem wo_b {b:Nat} (h1:1≤b) (h2:b≤2200):tnU (-woZ b)*kU≤2^(b - 1)*tnO (-woZ b)∧2^b*tnO (-woZ b - 2)≤tnU (-woZ b - 2)*kU:=by
 have h:=List.all_eq_true.1 wo_all (b - 1) (List.mem_range.2 (by omega))
 rw[show b - 1+1=b by omega] at h
 unfold woC at h
 obtain⟨h3,h4⟩:=Bool.and_eq_true_iff.1 h
 exact⟨Nat.le_of_ble_eq_true h3,Nat.le_of_ble_eq_true h4⟩
theorem unF_sc (A:Nat) (k:Int):unF (A:Int) (tnO k) (tnU k)=((scF A k:Nat):Int):=by
 unfold unF scF
 rw[kU_kP,←Int.natCast_mul,←Int.natCast_ediv]
theorem bl_twoP {A:Nat} (h0:A≠0):2^(bl A - 1)≤A∧A<2^bl A:=by
 have h1:=(bl_le A (bl A)).1 (Nat.le_refl _)
 refine⟨?_,h1⟩
 rcases Nat.lt_or_ge A (2^(bl A - 1))with h|h
 ·have h2:=(bl_le A (bl A - 1)).2 h
  have h3:bl A=0:=by omega
  rw[h3] at h1
  simp at h1
  omega
 ·exact h
theorem woX_spec {A:Nat} (hA:A<2^bU) (h0:A≠0):10≤scF A (1 - woX A)∧scF A (1 - woX A)≤99 ∧ -400≤woX A∧woX A≤400:=by
 obtain⟨b1,b2⟩:=bl_bU hA h0
 obtain⟨w1,w2⟩:=wo_b b1 b2
 obtain⟨t1,t2⟩:=bl_twoP h0
 have hZ:woX0 A=woZ (bl A):=rfl
 have hx : -399≤woX0 A∧woX0 A≤399:=by
  have hk:=kP_eq
  unfold woX0
  generalize kP=x at *
  omega
 have g1:1≤scF A (-woX0 A):=by
  unfold scF
  rw[Nat.one_le_div_iff (tnU_pos _)]
  rw[hZ]
  exact Nat.le_trans w1 (Nat.mul_le_mul_right _ t1)
 have g2:scF A (-woX0 A - 2)=0:=by
  unfold scF
  refine Nat.div_eq_of_lt ?_
  rw[hZ]
  refine Nat.lt_of_lt_of_le (Nat.mul_lt_mul_of_pos_right t2 (Nat.pow_pos (by decide))) w2
 have g3:=scF_step A (-woX0 A - 2)
 rw[show -woX0 A - 2+1 = -woX0 A - 1 by omega] at g3
 have g4:=scF_step A (-woX0 A - 1)
 rw[show -woX0 A - 1+1 = -woX0 A by omega] at g4
 have hF:=unF_sc A (-woX0 A - 1)
 have key:∀ X:Int,1≤scF A (-X)→scF A (-X)≤9→10≤scF A (1 - X)∧scF A (1 - X)≤99:=by
  intro X k1 k2
  have k3:=scF_step A (-X)
  rw[show -X+1=1 - X by omega] at k3
  omega
 unfold woX
 rw[hF]
 by_cases h:0<((scF A (-woX0 A - 1):Nat):Int)
 ·rw[if_pos h]
  have:=key (woX0 A+1) (by rw[show -(woX0 A+1) = -woX0 A - 1 by omega];omega) (by rw[show -(woX0 A+1) = -woX0 A - 1 by omega];omega)
  exact⟨this.1,this.2,by omega,by omega⟩
 ·rw[if_neg h]
  have:=key (woX0 A) g1 (by omega)
  exact⟨this.1,this.2,by omega,by omega⟩
theorem tdiv_b {n:Int} (h : -33000000≤n∧n≤34000000) : -400≤Int.tdiv n 100000∧Int.tdiv n 100000≤400:=by
 rcases Int.lt_or_le n 0 with h0|h0
 ·obtain⟨m,rfl⟩:∃ m:Int,n = -m:=⟨-n,by omega⟩
  rw[Int.neg_tdiv,Int.tdiv_eq_ediv_of_nonneg (by omega)]
  omega
 ·rw[Int.tdiv_eq_ediv_of_nonneg h0]
  omega
theorem pl_gt {u v j:Nat} (hu:u≤99) (h:v=u / 10^(j+1)):cmpI ((v:Nat):Int) 10<0:=by
 have h4:u / 10^(j+1)≤u / 10:=Nat.div_le_div_left (by rw[Nat.pow_succ];have:0<10^j:=Nat.pow_pos (by decide);omega) (by decide)
 rw[←h] at h4
 have h5:v<10:=by omega
 rcases cmpI_cases ((v:Nat):Int) 10 with h|h|h <;> omega
theorem pl_lt {u v j:Nat} (hu:10≤u) (h:u=v / 10^(j+1)):0≤cmpI ((v:Nat):Int) 10∧0≤cmpI ((v:Nat):Int) 100:=by
 have h4:v / 10^(j+1)≤v / 10:=Nat.div_le_div_left (by rw[Nat.pow_succ];have:0<10^j:=Nat.pow_pos (by decide);omega) (by decide)
 rw[←h] at h4
 have h5:100≤v:=by omega
 constructor
 ·rcases cmpI_cases ((v:Nat):Int) 10 with h|h|h <;> omega
 ·rcases cmpI_cases ((v:Nat):Int) 100 with h|h|h <;> omega
theorem pl_eq {u:Nat} (h1:10≤u) (h2:u≤99):0≤cmpI ((u:Nat):Int) 10∧cmpI ((u:Nat):Int) 100<0:=by
 constructor
 ·rcases cmpI_cases ((u:Nat):Int) 10 with h|h|h <;> omega
 ·rcases cmpI_cases ((u:Nat):Int) 100 with h|h|h <;> omega
theorem d4Place {A:Nat} {X:Value} {w:World} (hA:A<2^bU) (h0:A≠0) (hX:DN w X (un (A:Int) 1074)) :
  Calls Tryz.prog 81 #[X] w fun r w'=>r=.returned (.int .i64 (woX A))∧Bw w w':=by
 obtain⟨s,ao,n,cp,e,rfl⟩:=hX.shape
 obtain⟨b1,b2⟩:=bl_bU hA h0
 obtain⟨p1,p2,p3,p4⟩:=woX_spec hA h0
 have hb:=bU_eq
 have h8:=hT8_eq
 refine d4Place_1 s ao n cp e ((bl A:Int) - 1074) _ (woX A) _ (un 10 0) (un 100 0) (fun x=>un ((scF A (-x+1):Nat):Int) 0) (fun x=>scE A (-x+1)) (fun x=>cmpI ((scF A (-x+1):Nat):Int) 10) (fun x=>cmpI ((scF A (-x+1):Nat):Int) 100) w hX ⟨by omega,by omega⟩ rfl ?_ ?_ ?_ ?_ ?_ ?_ ?_ ?_
 ·have:=tdiv_b (n:=((bl A:Int) - 1074 - 1)*30103) (by omega)
  exact⟨this.1,this.2,p3,p4⟩
 ·intro W Y hY
  have h:=ghigh (nat_lt hA) (by omega) (by omega) (show((A:Nat):Int)≠0 by omega) hY
  rw[Int.natAbs_natCast] at h
  exact h
 ·exact fun x h1 h2 W Y hY=>d4scaled hA (by omega) hY
 ·exact fun W=>(dwholeU (n:=10) (by omega) W).mono fun r w' h=>outQ h
 ·exact fun W=>(dwholeU (n:=100) (by omega) W).mono fun r w' h=>outQ h
 ·exact fun x h1 h2 W Y Z hY hZ=>dorderU (nat_lt (scF_lt hA (by omega)).1) (show((10:Int)).natAbs<2^7 by decide) (by omega) (by omega) (by omega) hY hZ
 ·exact fun x h1 h2 W Y Z hY hZ=>dorderU (nat_lt (scF_lt hA (by omega)).1) (show((100:Int)).natAbs<2^7 by decide) (by omega) (by omega) (by omega) hY hZ
 ·intro x h1 h2
  refine⟨fun h=>?_,fun h=>?_,fun h=>?_⟩
  ·obtain⟨j,hj⟩:∃ j:Nat,x=woX A+((j+1:Nat):Int):=⟨(x - woX A - 1).toNat,by omega⟩
   have h3:=scF_down A (1 - woX A) (j+1)
   rw[show 1 - woX A - ((j+1:Nat):Int) = -x+1 by omega] at h3
   exact pl_gt p2 h3
  ·obtain⟨j,hj⟩:∃ j:Nat,woX A=x+((j+1:Nat):Int):=⟨(woX A - x - 1).toNat,by omega⟩
   have h3:=scF_down A (-x+1) (j+1)
   rw[show -x+1 - ((j+1:Nat):Int)=1 - woX A by omega] at h3
   exact pl_lt p1 h3
  ·rw[h,show -woX A+1=1 - woX A by omega]
   exact pl_eq p1 p2
theorem bv_gapS (b:Nat):bv (b+1)=bv b+2^(max 1 (b / 4503599627370496) - 1):=by
 by_cases h:b<4503599627370496
 ·have e0:=bv_at (j:=0) (q:=b) (.inl ⟨rfl,by omega⟩)
  have e1:=bv_at (j:=0) (q:=b+1) (.inl ⟨rfl,by omega⟩)
  rw[show max 1 (b / 4503599627370496) - 1=0 by omega]
  simp at e0 e1 ⊢
  rw[e0,e1]
 ·have e0:=bv_at (j:=b / 4503599627370496 - 1) (q:=4503599627370496+b % 4503599627370496) (.inr ⟨by omega,by omega⟩)
  have e1:=bv_at (j:=b / 4503599627370496 - 1) (q:=4503599627370496+b % 4503599627370496+1) (.inr ⟨by omega,by omega⟩)
  rw[show(b / 4503599627370496 - 1)*4503599627370496+(4503599627370496+b % 4503599627370496)=b by omega] at e0
  rw[show(b / 4503599627370496 - 1)*4503599627370496+(4503599627370496+b % 4503599627370496+1)=b+1 by omega] at e1
  rw[e0,e1,show max 1 (b / 4503599627370496) - 1=b / 4503599627370496 - 1 by omega,Nat.add_mul _ 1,Nat.one_mul]
theorem fU_bv {a:Nat} (h:a<9223372036854775808):fU a=bv a:=by
 have hm:mag a=a:=by unfold mag;omega
 unfold fU Ie.mant Ie.lp
 rw[hm]
 by_cases c:a<4503599627370496
 ·rw[if_pos c,show(-1075+max 1 ((a / 4503599627370496:Nat):Int)+1074).toNat=0 by omega]
  have:=bv_at (j:=0) (q:=a) (.inl ⟨rfl,by omega⟩)
  simpa using this.symm
 ·rw[if_neg c,show(-1075+max 1 ((a / 4503599627370496:Nat):Int)+1074).toNat=a / 4503599627370496 - 1 by omega]
  have:=bv_at (j:=a / 4503599627370496 - 1) (q:=4503599627370496+a % 4503599627370496) (.inr ⟨by omega,by omega⟩)
  rw[show(a / 4503599627370496 - 1)*4503599627370496+(4503599627370496+a % 4503599627370496)=a by omega] at this
  exact this.symm
theorem sZ_bv {a:Nat} (h:a<9223372036854775808):sZ a=((bv a:Nat):Int):=by
 unfold sZ
 rw[fU_bv h,show neg a=false by unfold neg;exact decide_eq_false (by omega)]
 exact if_neg (by decide)
def utC (i:Nat):Bool:=Nat.beq (bv (Ie.mk false 1 ((i:Int) - 1074) 2 9221120237041090561)) (2^i)&&Nat.blt (Ie.mk false 1 ((i:Int) - 1074) 2 9221120237041090561) 9218868437227405312
theorem ut_all:(List.range 2046).all utC=true:=by decide +kernel
theorem ut_ok {a:Nat} (h:a<9218868437227405312):utF a<9218868437227405312∧bv (a+1)=bv a+bv (utF a):=by
 have hg:=bv_gapS a
 have hm:mag a=a:=by unfold mag;omega
 have h1:=List.all_eq_true.1 ut_all (max 1 (a / 4503599627370496) - 1) (List.mem_range.2 (by omega))
 unfold utC at h1
 obtain⟨h2,h3⟩:=Bool.and_eq_true_iff.1 h1
 have e:(((max 1 (a / 4503599627370496) - 1:Nat):Int) - 1074)=Ie.lp a:=by unfold Ie.lp;rw[hm];omega
 rw[e] at h2 h3
 have h4:=Nat.eq_of_beq_eq_true h2
 refine⟨?_,?_⟩
 ·unfold utF;exact Nat.le_of_ble_eq_true h3
 ·rw[hg,←h4];rfl
theorem bv_two {a:Nat} (h:0<a):bv (a+1)≤2*bv a:=by
 obtain⟨j,q,e,e1,e2⟩:=bv_form a
 have h1:bv 0<bv a:=bv_lt h
 rw[e1] at h1
 have hq:q≠0:=by intro h0;rw[h0,Nat.zero_mul] at h1;omega
 rw[e1,e2,←Nat.mul_assoc]
 exact Nat.mul_le_mul_right _ (by omega)
theorem loZ_bv {a:Nat} (h0:0<a) (h:a<9218868437227405312):loZ a=((bv (a - 1)+bv a:Nat):Int):=by
 unfold loZ
 rw[sZ_bv (by omega),sZ_bv (by omega),Int.natCast_add]
theorem hiZ_bv {a:Nat} (h:a<9218868437227405312):hiZ a=((bv a+bv (a+1):Nat):Int):=by
 obtain⟨u1,u2⟩:=ut_ok h
 unfold hiZ
 rw[sZ_bv (by omega),sZ_bv (by omega),u2]
 omega
theorem flQ_nat (Z a:Nat):flQ (Z:Int) a=((Z*shO a / (shU a*2^kQ):Nat):Int):=by
 unfold flQ
 rw[←Int.natCast_mul,←Int.natCast_ediv]
theorem kQ_q (U:Nat):U*2^kQ=2*(U*2^kP):=by rw[kQ_n,Nat.pow_succ,←Nat.mul_assoc,Nat.mul_comm]
theorem kP_q (U:Nat):U*2^kP=2*(U*2^kP1):=by rw[kU_kP,kP1_half,Nat.mul_left_comm]
def shG (a:Nat):Nat:=bv a*shO a / (shU a*2^kP)
theorem shG_b {a:Nat} (h0:0<a) (h:a<9218868437227405312):10000000000000000≤shG a∧shG a<100000000000000000:=by
 have hA:fU a≠0:=by
  rw[fU_bv (by omega)]
  have h1:bv 0<bv a:=bv_lt h0
  rw[bv_zero] at h1
  omega
 obtain⟨w1,w2,-,-⟩:=woX_spec (fU_lt a) hA
 have h1:=scF_down (fU a) (16 - shX a) 15
 have e1:16 - shX a - ((15:Nat):Int)=1 - woX (fU a):=by unfold shX;omega
 rw[e1] at h1
 have e2:scF (fU a) (16 - shX a)=shG a:=by
  unfold scF shG shO shU
  rw[←kU_kP,fU_bv (by omega)]
 rw[e2] at h1
 rw[h1] at w1 w2
 have e3:(10:Nat)^15=1000000000000000:=by decide
 rw[e3] at w1 w2
 omega
theorem sh_div {N q Z:Nat} (h:Z≤2*N):Z / (2*q)≤N / q:=by
 have h1:Z / (2*q)≤2*N / (2*q):=Nat.div_le_div_right h
 rwa [Nat.mul_div_mul_left _ _ (by decide)] at h1
theorem sh_div2 {N q Z:Nat} (h:2*N≤Z):N / q≤Z / (2*q):=by
 have h1:2*N / (2*q)≤Z / (2*q):=Nat.div_le_div_right h
 rwa [Nat.mul_div_mul_left _ _ (by decide)] at h1
theorem sh_half (N q:Nat):N / (2*q)=N / q / 2:=by rw[Nat.div_div_eq_div_mul,Nat.mul_comm]
theorem shOk {a:Nat} (h0:0<a) (h:a<9218868437227405312):ShOk a:=by
 obtain⟨g1,g2⟩:=shG_b h0 h
 have hlo:(bv (a - 1)+bv a)*shO a / (shU a*2^kQ)≤shG a:=by
  rw[kQ_q]
  refine sh_div ?_
  have:bv (a - 1)≤bv a:=bv_le (by omega)
  rw[←Nat.mul_assoc]
  exact Nat.mul_le_mul_right _ (by omega)
 have hhi:shG a≤(bv a+bv (a+1))*shO a / (shU a*2^kQ):=by
  rw[kQ_q]
  refine sh_div2 ?_
  have:bv a≤bv (a+1):=bv_le (by omega)
  rw[←Nat.mul_assoc]
  exact Nat.mul_le_mul_right _ (by omega)
 have htw:bv a*shO a / (shU a*2^kP1) / 2=shG a:=by
  unfold shG
  rw[kP_q,sh_half]
 have hhi2:(bv a+bv (a+1))*shO a / (shU a*2^kQ)≤bv a*shO a / (shU a*2^kP1):=by
  rw[kQ_q,kP_q]
  refine Nat.le_trans (sh_div (N:=2*(bv a*shO a)) ?_) (sh_div (N:=bv a*shO a) (Nat.le_refl _))
  have:=bv_two h0
  rw[←Nat.mul_assoc,←Nat.mul_assoc]
  exact Nat.mul_le_mul_right _ (by omega)
 have eL:=loZ_bv h0 h
 have eH:=hiZ_bv h
 have eT:shTz a=((bv a*shO a / (shU a*2^kP1):Nat):Int):=by
  unfold shTz
  rw[sZ_bv (by omega),←Int.natCast_mul,←Int.natCast_ediv]
 have fL:=flQ_nat (bv (a - 1)+bv a) a
 have fH:=flQ_nat (bv a+bv (a+1)) a
 rw[←eL] at fL
 rw[←eH] at fH
 generalize (bv (a - 1)+bv a)*shO a / (shU a*2^kQ)=l at *
 generalize (bv a+bv (a+1))*shO a / (shU a*2^kQ)=r at *
 generalize bv a*shO a / (shU a*2^kP1)=t at *
 exact⟨h0,h,(ut_ok h).1,by omega,by unfold shN;omega,by omega,by unfold shM;omega,by omega,by unfold shT;omega⟩
theorem nr_near {Z a:Nat} (hZ:Z≠0) (h0:0<a) (h:a<9218868437227405312):nrF (Z:Int)=a↔RdN a Z 1:=by
 have hkP:=kP_eq
 have hkQ:=kQ_n
 have hs:=(tz_spec _ _ (Nat.le_refl _) hZ).1
 have hx:Z / 2^tz Z≠0:=by intro h9;rw[h9,Nat.mul_zero] at hs;omega
 unfold nrF
 rw[un_partsB Z kQ hZ]
 rw[Nat.mul_comm] at hs
 generalize Z / 2^tz Z=x at *
 generalize tz Z=t at *
 generalize kQ=Q at *
 generalize kP=p at *
 obtain⟨K,hK⟩:∃ K:Nat,K=70000:=⟨_,rfl⟩
 show tfF false true x ((t:Int) - (Q:Int)) 2=a↔_
 rw[tf_bdy (by omega),sig_f]
 show bdy _ _ 1=a↔_
 rw[bdy_near (K:=K) (by omega) hx (by omega) h0 h,←RdN.scale (c:=a) (P:=Z) (Q:=1) (k:=UU K) (UU_pos K),Nat.one_mul]
 have e:2*VA K x ((t:Int) - (Q:Int))=Z*UU K:=by
  unfold VA UU
  rw[←hs]
  have e1:2*(x*2^((t:Int) - (Q:Int)+(K:Int)).toNat)=x*2^(((t:Int) - (Q:Int)+(K:Int)).toNat+1):=by rw[Nat.pow_succ];ac_rfl
  rw[e1,Nat.mul_assoc,←Nat.pow_add,pe (show((t:Int) - (Q:Int)+(K:Int)).toNat+1=t+(K - 1074) by omega)]
 rw[e]
theorem nr_le {Z:Nat} (hZ:Z≠0):nrF (Z:Int)≤9218868437227405312:=by
 unfold nrF
 rw[un_partsB Z kQ hZ]
 show tfF false true _ _ 2≤_
 rw[tf_bdy (by omega),sig_f]
 exact bdy_le _ _ _
theorem isR_near {Z a:Nat} (hZ:Z≠0) (h0:0<a) (h:a<9218868437227405312):isR (Z:Int) a=true↔RdN a Z 1:=by
 have hl:=nr_le hZ
 rw[←nr_near hZ h0 h]
 unfold isR
 rw[ord_eq _ a (by omega) (by omega),eq_pos hl (by omega)]
 exact decide_eq_true_iff
theorem isR_lo {a:Nat} (h0:0<a) (h:a<9218868437227405312):isR (loZ a) a=decide (a % 2=0):=by
 have m1:bv (a - 1)<bv a:=bv_lt (by omega)
 have m2:bv a<bv (a+1):=bv_succ a
 rw[loZ_bv h0 h]
 have:=isR_near (Z:=bv (a - 1)+bv a) (by omega) h0 h
 unfold RdN at this
 rw[Bool.eq_iff_iff,this,decide_eq_true_iff]
 constructor
 ·rintro⟨h1|h1,-⟩ <;> omega
 ·intro h1;exact⟨.inr (by omega),.inl (by omega)⟩
theorem isR_hi {a:Nat} (h0:0<a) (h:a<9218868437227405312):isR (hiZ a) a=decide (a % 2=0):=by
 have m1:bv (a - 1)<bv a:=bv_lt (by omega)
 have m2:bv a<bv (a+1):=bv_succ a
 rw[hiZ_bv h]
 have:=isR_near (Z:=bv a+bv (a+1)) (by omega) h0 h
 unfold RdN at this
 rw[Bool.eq_iff_iff,this,decide_eq_true_iff]
 constructor
 ·rintro⟨-,h1|h1⟩ <;> omega
 ·intro h1;exact⟨.inl (by omega),.inr (by omega)⟩
theorem exq_nat (Z a:Nat):exq (Z:Int) a=decide (Z*shO a % (shU a*2^kQ)=0):=by
 unfold exq
 rw[←Int.natCast_mul,←Int.natCast_emod]
 exact decide_eq_decide.2 (by omega)
theorem lo_pure {p d N:Nat} {ev:Prop} [Decidable ev] (hd:0<d):(if(decide (p % d=0)&&decide ev)=true then p / d else p / d+1)≤N↔p<N*d∨(p=N*d∧ev):=by
 have hp:=Nat.div_add_mod p d
 have hm:=Nat.mod_lt p hd
 by_cases c:p % d=0∧ev
 ·rw[if_pos (by simpa using c)]
  have e:p / d*d=p:=Nat.div_mul_cancel (Nat.dvd_of_mod_eq_zero c.1)
  constructor
  ·intro h
   have:=Nat.mul_le_mul_right d h
   rw[e] at this
   rcases Nat.lt_or_ge p (N*d)with h1|h1
   ·exact .inl h1
   ·exact .inr ⟨by omega,c.2⟩
  ·intro h
   refine Nat.le_of_mul_le_mul_right (c:=d) ?_ hd
   rw[e]
   rcases h with h|⟨h,-⟩ <;> omega
 ·rw[if_neg (by simpa using c)]
  have h1:p / d+1≤N↔p<N*d:=Nat.div_lt_iff_lt_mul hd
  rw[h1]
  constructor
  ·exact .inl
  ·rintro(h2|⟨h2,h3⟩)
   ·exact h2
   ·exfalso;exact c ⟨by rw[h2];exact Nat.mul_mod_left _ _,h3⟩
theorem hi_pure {p d N:Nat} {ev:Prop} [Decidable ev] (hd:0<d) (h0:0<p / d):N≤(if(decide (p % d=0) && !decide ev)=true then p / d - 1 else p / d)↔N*d<p∨(N*d=p∧ev):=by
 by_cases c:p % d=0∧¬ ev
 ·rw[if_pos (by simpa using c)]
  have e:p / d*d=p:=Nat.div_mul_cancel (Nat.dvd_of_mod_eq_zero c.1)
  constructor
  ·intro h
   left
   have h1:N<p / d:=by omega
   have:=Nat.mul_lt_mul_of_pos_right h1 hd
   rwa [e] at this
  ·rintro(h|⟨-,h⟩)
   ·rw[←e] at h
    have:=Nat.lt_of_mul_lt_mul_right h
    omega
   ·exact absurd h c.2
 ·rw[if_neg (by simpa using c),Nat.le_div_iff_mul_le hd]
  constructor
  ·intro h
   rcases Nat.lt_or_ge (N*d) p with h1|h1
   ·exact .inl h1
   ·right
    refine⟨by omega,?_⟩
    have h2:p % d=0:=by rw[show p=N*d by omega];exact Nat.mul_mod_left _ _
    exact Classical.byContradiction fun h3=>c ⟨h2,h3⟩
  ·rintro(h|⟨h,-⟩) <;> omega
theorem shL_iff {a N:Nat} (h0:0<a) (h:a<9218868437227405312):shL a≤N↔(bv (a - 1)+bv a)*shO a<N*(shU a*2^kQ)∨((bv (a - 1)+bv a)*shO a=N*(shU a*2^kQ)∧a % 2=0):=by
 have hd:0<shU a*2^kQ:=Nat.mul_pos (Nat.pow_pos (by decide)) (twB_pos _)
 have e1:shN a=(bv (a - 1)+bv a)*shO a / (shU a*2^kQ):=by unfold shN;rw[loZ_bv h0 h,flQ_nat,Int.toNat_natCast]
 unfold shL
 rw[e1,isR_lo h0 h,loZ_bv h0 h,exq_nat,lo_pure hd]
theorem shH_iff {a N:Nat} (h0:0<a) (h:a<9218868437227405312):N≤shH a↔N*(shU a*2^kQ)<(bv a+bv (a+1))*shO a∨(N*(shU a*2^kQ)=(bv a+bv (a+1))*shO a∧a % 2=0):=by
 have hhi:=(shOk h0 h).hi
 have hd:0<shU a*2^kQ:=Nat.mul_pos (Nat.pow_pos (by decide)) (twB_pos _)
 have e2:shM a=(bv a+bv (a+1))*shO a / (shU a*2^kQ):=by unfold shM;rw[hiZ_bv h,flQ_nat,Int.toNat_natCast]
 have e3:0<(bv a+bv (a+1))*shO a / (shU a*2^kQ):=by
  rw[hiZ_bv h,flQ_nat] at hhi
  exact Int.natCast_pos.1 hhi
 unfold shH
 rw[e2,isR_hi h0 h,hiZ_bv h,exq_nat,hi_pure hd e3]
theorem sh_iff {a N:Nat} (h0:0<a) (h:a<9218868437227405312):(shL a≤N∧N≤shH a)↔RdN a (N*(shU a*2^kQ)) (shO a):=by
 rw[shL_iff h0 h,shH_iff h0 h,RdN]
theorem gap53 (b:Nat):bv (b+1)≤9007199254740992*(bv (b+1) - bv b):=by
 have hg:=bv_gapS b
 by_cases h:b<4503599627370496
 ·have e1:=bv_at (j:=0) (q:=b+1) (.inl ⟨rfl,by omega⟩)
  rw[show max 1 (b / 4503599627370496) - 1=0 by omega] at hg
  simp at e1 hg
  omega
 ·have e1:=bv_at (j:=b / 4503599627370496 - 1) (q:=4503599627370496+b % 4503599627370496+1) (.inr ⟨by omega,by omega⟩)
  rw[show(b / 4503599627370496 - 1)*4503599627370496+(4503599627370496+b % 4503599627370496+1)=b+1 by omega] at e1
  rw[show max 1 (b / 4503599627370496) - 1=b / 4503599627370496 - 1 by omega] at hg
  rw[show bv (b+1) - bv b=2^(b / 4503599627370496 - 1) by rw[hg,Nat.add_sub_cancel_left],e1]
  exact Nat.mul_le_mul_right _ (by omega)
theorem gapN {x y O d g:Nat} (h:x≤9007199254740992*y) (hg:10000000000000000*d≤x*O) (hd:0<d):d<y*O:=by
 have h1:x*O≤9007199254740992*(y*O):=by rw[←Nat.mul_assoc];exact Nat.mul_le_mul_right _ h
 omega
theorem sh17 {a:Nat} (h0:0<a) (h:a<9218868437227405312):shL a≤shG a∨shG a+1≤shH a:=by
 obtain⟨g1,-⟩:=shG_b h0 h
 have hd:0<shU a*2^kP:=Nat.mul_pos (Nat.pow_pos (by decide)) (twB_pos _)
 rw[shL_iff h0 h,shH_iff h0 h,kQ_q]
 have m1:bv (a - 1)<bv a:=bv_lt (by omega)
 have m2:bv a<bv (a+1):=bv_succ a
 have q1:=gap53 (a - 1)
 have q2:=gap53 a
 rw[show a - 1+1=a by omega] at q1
 have hdm:=Nat.div_add_mod (bv a*shO a) (shU a*2^kP)
 have hm:=Nat.mod_lt (bv a*shO a) hd
 have hG:bv a*shO a / (shU a*2^kP)=shG a:=rfl
 rw[hG] at hdm
 generalize shG a=G at *
 generalize shU a*2^kP=d at *
 have hN:10000000000000000*d≤bv a*shO a:=by
  have:10000000000000000*d≤G*d:=Nat.mul_le_mul_right _ g1
  rw[Nat.mul_comm d G] at hdm
  omega
 have k1:=gapN (g:=0) q1 hN hd
 have k2:=gapN (x:=bv a) (y:=bv (a+1) - bv a) (g:=0) (by omega) hN hd
 obtain⟨u,hu⟩:∃ u,bv a=bv (a - 1)+u:=⟨bv a - bv (a - 1),by omega⟩
 obtain⟨v,hv⟩:∃ v,bv (a+1)=bv a+v:=⟨bv (a+1) - bv a,by omega⟩
 rw[show bv a - bv (a - 1)=u by omega] at k1
 rw[show bv (a+1) - bv a=v by omega] at k2
 have e1:(bv (a - 1)+bv a)*shO a+u*shO a=2*(bv a*shO a):=by
  rw[←Nat.add_mul,←Nat.mul_assoc]
  congr 1
  omega
 have e2:(bv a+bv (a+1))*shO a=2*(bv a*shO a)+v*shO a:=by
  rw[←Nat.mul_assoc,←Nat.add_mul]
  congr 1
  omega
 have e3:G*(2*d)=2*(d*G):=by ac_rfl
 have e4:(G+1)*(2*d)=2*(d*G)+2*d:=by rw[Nat.add_mul,e3,Nat.one_mul]
 rw[e2,e3,e4]
 generalize bv a*shO a % d=r at *
 generalize bv a*shO a=N at *
 generalize (bv (a - 1)+bv a)*shO a=L at *
 generalize u*shO a=U' at *
 generalize v*shO a=V' at *
 generalize d*G=dG at *
 rcases Nat.lt_or_ge d (2*r)with hr|hr
 ·right;left;omega
 ·left;left;omega
theorem tenX {a b:Nat} (h:a=b):(10:Nat)^a=10^b:=by rw[h]
theorem tn_cross (k:Int) (j:Nat):tnU k*tnO (k+j)=10^j*tnU (k+j)*tnO k:=by
 unfold tnU tnO
 rw[←Nat.pow_add,←Nat.pow_add,←Nat.pow_add]
 exact tenX (by omega)
def loD (a i:Nat):Nat:=scF (fU a) ((i:Int) - shX a)
def exD (a i:Nat):Bool:=scE (fU a) ((i:Int) - shX a)
def hiD (a i:Nat):Nat:=if exD a i then loD a i else loD a i+1
def Bk (a N:Nat) (k:Int):Prop:=RdN a (N*(tnU k*2^kQ)) (tnO k)
theorem loD_fw {a i:Nat} (hi:i≤16) (h0:0<a) (h:a<9218868437227405312):loD a i*fwU i=fwL (shT a) i:=by
 have h1:=scF_down (fU a) (16 - shX a) (16 - i)
 rw[show 16 - shX a - ((16 - i:Nat):Int)=(i:Int) - shX a by omega] at h1
 have e2:scF (fU a) (16 - shX a)=shG a:=by
  unfold scF shG shO shU
  rw[←kU_kP,fU_bv (by omega)]
 have hT:shT a / 2=shG a:=by
  unfold shT shTz shG
  rw[sZ_bv (by omega),←Int.natCast_mul,←Int.natCast_ediv,Int.toNat_natCast,kP_q,sh_half]
 unfold loD fwL fwU
 rw[h1,e2,hT]
theorem bk_sh {a N i:Nat} (hi:i≤16) (h0:0<a) (h:a<9218868437227405312):Bk a N ((i:Int) - shX a)↔shL a≤N*fwU i∧N*fwU i≤shH a:=by
 rw[sh_iff h0 h]
 unfold Bk shO shU fwU
 have hc:=tn_cross ((i:Int) - shX a) (16 - i)
 rw[show(i:Int) - shX a+((16 - i:Nat):Int)=16 - shX a by omega] at hc
 refine RdN.cross (s:=tnO (16 - shX a)) (t:=tnO ((i:Int) - shX a)) (Nat.pow_pos (by decide)) (Nat.pow_pos (by decide)) ?_ (Nat.mul_comm _ _)
 generalize tnO (16 - shX a)=O at *
 generalize tnU (16 - shX a)=U at *
 generalize tnO ((i:Int) - shX a)=o at *
 generalize tnU ((i:Int) - shX a)=u at *
 generalize 2^kQ=q
 have e1:N*(u*q)*O=N*q*(u*O):=by ac_rfl
 have e2:N*10^(16 - i)*(U*q)*o=N*q*(10^(16 - i)*U*o):=by ac_rfl
 rw[e1,e2,hc]
theorem shG_H {a:Nat} (h0:0<a) (h:a<9218868437227405312):shG a≤shH a∧shL a≤shG a+1:=by
 have hd:0<shU a*2^kP:=Nat.mul_pos (Nat.pow_pos (by decide)) (twB_pos _)
 rw[shL_iff h0 h,shH_iff h0 h,kQ_q]
 have m1:bv (a - 1)<bv a:=bv_lt (by omega)
 have m2:bv a<bv (a+1):=bv_succ a
 have hO:0<shO a:=Nat.pow_pos (by decide)
 have hdm:=Nat.div_add_mod (bv a*shO a) (shU a*2^kP)
 have hm:=Nat.mod_lt (bv a*shO a) hd
 have hG:bv a*shO a / (shU a*2^kP)=shG a:=rfl
 rw[hG] at hdm
 have e1:(bv (a - 1)+bv a)*shO a<2*(bv a*shO a):=by rw[←Nat.mul_assoc];exact Nat.mul_lt_mul_of_pos_right (by omega) hO
 have e2:2*(bv a*shO a)<(bv a+bv (a+1))*shO a:=by rw[←Nat.mul_assoc];exact Nat.mul_lt_mul_of_pos_right (by omega) hO
 generalize shG a=G at *
 generalize shU a*2^kP=d at *
 have e3:G*(2*d)=2*(d*G):=by ac_rfl
 have e4:(G+1)*(2*d)=2*(d*G)+2*d:=by rw[Nat.add_mul,e3,Nat.one_mul]
 rw[e3,e4]
 generalize bv a*shO a % d=r at *
 generalize bv a*shO a=N at *
 generalize (bv (a - 1)+bv a)*shO a=L at *
 generalize (bv a+bv (a+1))*shO a=H at *
 generalize d*G=dG at *
 exact⟨.inl (by omega),.inl (by omega)⟩
theorem shT_G {a:Nat} (h:a<9218868437227405312):shT a / 2=shG a:=by
 unfold shT shTz shG
 rw[sZ_bv (by omega),←Int.natCast_mul,←Int.natCast_ediv,Int.toNat_natCast,kP_q,sh_half]
theorem fwG {a i:Nat} (h:a<9218868437227405312):fwL (shT a) i≤shG a∧shG a+1≤fwL (shT a) i+fwU i:=by
 have e:=shT_G h
 unfold fwL
 rw[e]
 have h1:=Nat.div_add_mod (shG a) (fwU i)
 have h2:=Nat.mod_lt (shG a) (fwU_pos i)
 rw[Nat.mul_comm] at h1
 omega
theorem bk_lo {a i:Nat} (hi:i≤16) (h0:0<a) (h:a<9218868437227405312):Bk a (loD a i) ((i:Int) - shX a)↔shL a≤fwL (shT a) i:=by
 obtain⟨g1,g2⟩:=shG_H h0 h
 obtain⟨f1,f2⟩:=fwG (i:=i) h
 rw[bk_sh hi h0 h,loD_fw hi h0 h]
 exact⟨fun k=>k.1,fun k=>⟨k,by omega⟩⟩
theorem bk_hi {a i:Nat} (hi:i≤16) (h0:0<a) (h:a<9218868437227405312):Bk a (loD a i+1) ((i:Int) - shX a)↔fwL (shT a) i+fwU i≤shH a:=by
 obtain⟨g1,g2⟩:=shG_H h0 h
 obtain⟨f1,f2⟩:=fwG (i:=i) h
 rw[bk_sh hi h0 h,Nat.add_mul,loD_fw hi h0 h,Nat.one_mul]
 exact⟨fun k=>k.2,fun k=>⟨by omega,k⟩⟩
def mdM (a i:Nat):Nat:=2*fwL (shT a) i+fwU i
theorem sc_key {A low r Ok Uk O U K u N d1:Nat} (hA:A*Ok=Uk*(2*K)*low+r) (hc:Uk*O=u*U*Ok) (hN:N=A*O) (hd:d1=U*K) :
  (2*low*u*d1)*(2*Ok)+2*r*O=N*(2*Ok)∧(u*d1)*(2*Ok)=Uk*(2*K)*O:=by
 subst hN hd
 constructor
 ·have e1:A*O*(2*Ok)=2*(A*Ok)*O:=by ac_rfl
  rw[e1,hA,Nat.mul_add,Nat.add_mul]
  have e2:2*(Uk*(2*K)*low)*O=2*(2*K)*low*(Uk*O):=by ac_rfl
  rw[e2,hc]
  congr 1
  ac_rfl
 ·have e3:Uk*(2*K)*O=2*K*(Uk*O):=by ac_rfl
  rw[e3,hc]
  ac_rfl
theorem sc_cmp {Q r O N M d1 Ok low2u ud:Nat} (hO:0<O) (hOk:0<Ok) (h1:low2u*d1*(2*Ok)+2*r*O=N*(2*Ok)) (h2:ud*d1*(2*Ok)=Q*O) (hM:M=low2u+ud):(Q<2*r↔M*d1<N)∧(2*r=Q↔N=M*d1):=by
 have e:M*d1*(2*Ok)=low2u*d1*(2*Ok)+Q*O:=by rw[hM,Nat.add_mul,Nat.add_mul,h2]
 have k1:M*d1<N↔M*d1*(2*Ok)<N*(2*Ok):=(Nat.mul_lt_mul_right (by omega)).symm
 have k2:N=M*d1↔N*(2*Ok)=M*d1*(2*Ok):=⟨fun h=>by rw[h],fun h=>Nat.eq_of_mul_eq_mul_right (by omega) h⟩
 have k3:Q<2*r↔Q*O<2*r*O:=(Nat.mul_lt_mul_right hO).symm
 have k4:2*r=Q↔2*r*O=Q*O:=⟨fun h=>by rw[h],fun h=>Nat.eq_of_mul_eq_mul_right hO h⟩
 rw[k1,k2,k3,k4,e,←h1]
 omega
theorem sc_half {a i:Nat} (hi:i≤16) (h0:0<a) (h:a<9218868437227405312) :
  (tnU ((i:Int) - shX a)*kU<2*scR (fU a) ((i:Int) - shX a)↔mdM a i*(shU a*2^kP1)<bv a*shO a)∧(2*scR (fU a) ((i:Int) - shX a)=tnU ((i:Int) - shX a)*kU↔bv a*shO a=mdM a i*(shU a*2^kP1)):=by
 have hc:=tn_cross ((i:Int) - shX a) (16 - i)
 rw[show(i:Int) - shX a+((16 - i:Nat):Int)=16 - shX a by omega] at hc
 obtain⟨s1,-⟩:=sc_eq (fU a) ((i:Int) - shX a)
 have hl:=loD_fw hi h0 h
 have hO:0<tnO (16 - shX a):=Nat.pow_pos (by decide)
 have hOk:0<tnO ((i:Int) - shX a):=Nat.pow_pos (by decide)
 unfold mdM
 rw[←hl,fU_bv (by omega)] at *
 unfold loD fwU shO shU
 rw[fU_bv (by omega),kP1_half] at *
 generalize scF (bv a) ((i:Int) - shX a)=low at *
 generalize scR (bv a) ((i:Int) - shX a)=r at *
 generalize tnO (16 - shX a)=O at *
 generalize tnU (16 - shX a)=U at *
 generalize tnO ((i:Int) - shX a)=o at *
 generalize tnU ((i:Int) - shX a)=u at *
 generalize 2^kP1=K at *
 obtain⟨k1,k2⟩:=sc_key (A:=bv a) (low:=low) (r:=r) (Ok:=o) (Uk:=u) (O:=O) (U:=U) (K:=K) (u:=10^(16 - i)) s1 hc rfl rfl
 exact sc_cmp hO hOk (low2u:=2*low*10^(16 - i)) (ud:=10^(16 - i)) k1 k2 (by rw[Nat.mul_assoc])
theorem ab_pure {N d M T:Nat} (hd:0<d) (hT:T=N / d):(M*d<N↔M<T∨(T=M∧¬ N % d=0))∧(N=M*d↔T=M∧N % d=0):=by
 have h1:=Nat.div_add_mod N d
 have h2:=Nat.mod_lt N hd
 rw[←hT,Nat.mul_comm] at h1
 have key:∀ x y:Nat,x<y→x*d+d≤y*d:=fun x y hxy=>by
  have:=Nat.mul_le_mul_right d (show x+1≤y from hxy)
  rwa [Nat.add_mul,Nat.one_mul] at this
 rcases Nat.lt_trichotomy M T with c|c|c
 ·have:=key M T c
  constructor <;> constructor
  ·intro _;exact .inl c
  ·intro _;omega
  ·intro _;omega
  ·rintro⟨k,-⟩;omega
 ·subst c
  constructor <;> constructor
  ·intro _;exact .inr ⟨rfl,by omega⟩
  ·rintro(k|⟨-,k⟩) <;> omega
  ·intro _;exact⟨rfl,by omega⟩
  ·rintro⟨-,k⟩;omega
 ·have:=key T M c
  constructor <;> constructor
  ·intro _;omega
  ·rintro(k|⟨k,-⟩) <;> omega
  ·intro _;omega
  ·rintro⟨k,-⟩;omega
theorem shA_doc {a:Nat} (hJ:shJ a≤16) (h0:0<a) (h:a<9218868437227405312):shA a=decide (tnU ((shJ a:Int) - shX a)*kU<2*scR (fU a) ((shJ a:Int) - shX a)∨(2*scR (fU a) ((shJ a:Int) - shX a)=tnU ((shJ a:Int) - shX a)*kU∧loD a (shJ a) % 2=1)):=by
 obtain⟨k1,k2⟩:=sc_half hJ h0 h
 have hl:=loD_fw hJ h0 h
 have hu:=fwU_pos (shJ a)
 have hle:=fwL_le (shT a) (shJ a)
 have hd:0<shU a*2^kP1:=Nat.mul_pos (Nat.pow_pos (by decide)) (twB_pos _)
 have hT:shT a=bv a*shO a / (shU a*2^kP1):=by
  unfold shT shTz
  rw[sZ_bv (by omega),←Int.natCast_mul,←Int.natCast_ediv,Int.toNat_natCast]
 have hI:shI a=decide (bv a*shO a % (shU a*2^kP1)=0):=by
  unfold shI
  rw[sZ_bv (by omega),←Int.natCast_mul,←Int.natCast_emod]
  exact decide_eq_decide.2 (by omega)
 obtain⟨p1,p2⟩:=ab_pure (M:=mdM a (shJ a)) hd hT
 have hq:fwL (shT a) (shJ a) / fwU (shJ a)=loD a (shJ a):=by rw[←hl,Nat.mul_div_cancel _ hu]
 rw[Bool.eq_iff_iff,decide_eq_true_iff,k1,k2,p1,p2]
 unfold shA
 rw[hI,hq]
 unfold mdM
 simp only[Bool.or_eq_true,Bool.and_eq_true,decide_eq_true_iff,Bool.not_eq_true',decide_eq_false_iff_not]
 generalize bv a*shO a % (shU a*2^kP1)=R
 generalize loD a (shJ a)=low
 generalize fwL (shT a) (shJ a)=l at *
 generalize fwU (shJ a)=u at *
 generalize shT a=T at *
 omega
theorem fwS_le (L H T:Nat):∀ n j,n+j=16→fwS L H T n j≤16:=by
 intro n
 induction n with
 | zero=>intro j hj;unfold fwS;omega
 | succ n ih =>
  intro j hj
  unfold fwS
  split
  ·exact ih (j+1) (by omega)
  ·omega
theorem shJ_le (a:Nat):shJ a≤16:=fwS_le _ _ _ 16 0 rfl
theorem shJ_spec {a:Nat} (h0:0<a) (h:a<9218868437227405312):(∀ i,i<shJ a→¬ shL a≤fwL (shT a) i∧¬ fwL (shT a) i+fwU i≤shH a)∧(shL a≤fwL (shT a) (shJ a)∨fwL (shT a) (shJ a)+fwU (shJ a)≤shH a):=by
 obtain⟨s1,s2⟩:=fwS_spec (shL a) (shH a) (shT a) 16 0 rfl (fun i hi=>absurd hi (by omega))
 have hle:=shJ_le a
 refine⟨fun i hi=>?_,?_⟩
 ·have:=s1 i hi
  omega
 ·show shL a≤fwL (shT a) (shJ a)∨_
  by_cases c:1<fwU (shJ a)
  ·have:=fun x=>s2 ⟨c,x⟩
   by_cases d:shL a≤fwL (shT a) (shJ a)
   ·exact .inl d
   ·right
    rcases Nat.lt_or_ge (shH a) (fwL (shT a) (shJ a)+fwU (shJ a))with e|e
    ·exact absurd ⟨by unfold shJ at d;omega,by unfold shJ at e;exact e⟩ this
    ·exact e
  ·have hu:=fwU_pos (shJ a)
   have e1:fwU (shJ a)=1:=by omega
   have e2:fwL (shT a) (shJ a)=shG a:=by
    unfold fwL
    rw[e1,Nat.mul_one,Nat.div_one,shT_G h]
   rw[e1,e2]
   exact sh17 h0 h
theorem ex_lo {a i:Nat} (hi:i≤16) (h0:0<a) (h:a<9218868437227405312) (he:exD a i=true):shL a≤fwL (shT a) i∧scR (fU a) ((i:Int) - shX a)=0:=by
 have hr:scR (fU a) ((i:Int) - shX a)=0:=by
  unfold exD scE at he
  unfold scR
  exact of_decide_eq_true he
 refine⟨?_,hr⟩
 have hc:=tn_cross ((i:Int) - shX a) (16 - i)
 rw[show(i:Int) - shX a+((16 - i:Nat):Int)=16 - shX a by omega] at hc
 obtain⟨s1,-⟩:=sc_eq (fU a) ((i:Int) - shX a)
 have hl:=loD_fw hi h0 h
 have m1:bv (a - 1)<bv a:=bv_lt (by omega)
 have hO:0<tnO (16 - shX a):=Nat.pow_pos (by decide)
 have hOk:0<tnO ((i:Int) - shX a):=Nat.pow_pos (by decide)
 rw[shL_iff h0 h,←hl]
 left
 rw[hr,Nat.add_zero,fU_bv (by omega)] at s1
 unfold loD fwU shO shU
 rw[fU_bv (by omega),kQ_q,kU_kP] at *
 generalize scF (bv a) ((i:Int) - shX a)=low at *
 generalize tnO (16 - shX a)=O at *
 generalize tnU (16 - shX a)=U at *
 generalize tnO ((i:Int) - shX a)=o at *
 generalize tnU ((i:Int) - shX a)=u at *
 generalize kU=K at *
 have e1:low*10^(16 - i)*(2*(U*K))*o=2*bv a*O*o:=by
  have e2:low*10^(16 - i)*(2*(U*K))*o=2*(K*low)*(10^(16 - i)*U*o):=by ac_rfl
  have e3:2*bv a*O*o=2*(bv a*o)*O:=by ac_rfl
  rw[e2,←hc,e3,s1]
  ac_rfl
 have e4:=Nat.eq_of_mul_eq_mul_right hOk e1
 rw[e4]
 exact Nat.mul_lt_mul_of_pos_right (by omega) hO
def bsD (a:Nat):Nat:=if shL a≤fwL (shT a) (shJ a)∧(exD a (shJ a)=true∨¬ (fwL (shT a) (shJ a)+fwU (shJ a)≤shH a∧shA a=true))then loD a (shJ a)else loD a (shJ a)+1
theorem shF_doc {a:Nat} (h0:0<a) (h:a<9218868437227405312):shF a=bsD a*fwU (shJ a):=by
 have hl:=loD_fw (shJ_le a) h0 h
 unfold shF bsD
 by_cases he:exD a (shJ a)=true
 ·obtain⟨k1,k2⟩:=ex_lo (shJ_le a) h0 h he
  have hA:shA a=false:=by
   rw[shA_doc (shJ_le a) h0 h,k2]
   refine decide_eq_false ?_
   have:=tnU_pos ((shJ a:Int) - shX a)
   rintro(h1|⟨h1,-⟩) <;> omega
  have n1:¬ (fwL (shT a) (shJ a)<shL a∨(shA a=true∧fwL (shT a) (shJ a)+fwU (shJ a)≤shH a)):=by
   intro h1
   rcases h1 with h1|h1
   ·omega
   ·rw[hA] at h1;exact absurd h1.1 (by decide)
  rw[if_neg n1,if_pos ⟨k1,.inl he⟩,hl]
 ·by_cases c:shL a≤fwL (shT a) (shJ a)
  ·by_cases d:fwL (shT a) (shJ a)+fwU (shJ a)≤shH a∧shA a=true
   ·rw[if_pos (.inr ⟨d.2,d.1⟩),if_neg (by rintro⟨-,h1|h1⟩;exact he h1;exact h1 d),Nat.add_mul,hl,Nat.one_mul]
   ·rw[if_neg (by rintro(h1|h1);omega;exact d ⟨h1.2,h1.1⟩),if_pos ⟨c,.inr d⟩,hl]
  ·rw[if_pos (.inl (by omega)),if_neg (by rintro⟨h1,-⟩;exact c h1),Nat.add_mul,hl,Nat.one_mul]
theorem d4back_a (s0:Bool) (ao0:Option Addr) (n0 cp0:Nat) (e0:Int) (k:Int) (R:Nat) (tn tT tM:Bool×Nat×Int) (w:World) (hA:DN w (.agg #[.bool s0,.slice ao0 n0 cp0,.int .i64 e0]) tn) (hk:k≤0) (hwk:IntKind.i64.wrap (-k) = -k)
  (kT:Hid (∀ W,Calls Tryz.prog 38 #[.int .i64 (-k)] W fun r w'=>OutQ W tT r w'))
  (kM:Hid (∀ W X Y,DN W X tn→DN W Y tT→Calls Tryz.prog 39 #[X,Y] W fun r w'=>OutQ W tM r w'))
  (kO:Hid (∀ W X,DN W X tM→Calls Tryz.prog 151 #[X,.int .i64 2] W fun r w'=>r=.returned (.float .f64 R)∧Bw W w')) :
  Calls Tryz.prog 84 #[.agg #[.bool s0,.slice ao0 n0 cp0,.int .i64 e0],.int .i64 k] w fun r w'=>r=.returned (.float .f64 R)∧Bw w w':=by
 obtain⟨W,hW⟩:∃ W,W=w.alloc (.cells #[.bool s0,.slice ao0 n0 cp0,.int .i64 e0] 54):=⟨_,rfl⟩
 have H0:Hid (NbQ W w.heap.size s0 ao0 n0 cp0 e0 tn∧Bw w W):=by
  have hb:Bw w W:=by rw[hW];exact(Below.refl _ _).alloc (Nat.le_refl _) _
  exact⟨⟨by rw[hW];exact heap_alloc_new _ _,hA.later hb⟩,hb⟩
 clear hA
 go_enter Tryz.func84,Tryz.ntmps84
 go_upto_region 1 with fail
 rw[←hW]
 clear hW
 go_upto_region 2 with fail
 refine r_region [0,1,2,3,4,5,6] [7,8,9,10,11,12,4] [[],[],[1],[2],[0,3],[4],[5]] W _ [isV (.agg #[.bool s0,.slice ao0 n0 cp0,.int .i64 e0]),isV (.int .i64 k),isV (.int .i64 (-k)),isD tT,isD tM,isV (.float .f64 R),isV (.float .f64 R)] (by kernel_rfl) ⟨isV_stays _,isV_stays _,isV_stays _,isD_stays _,isD_stays _,isV_stays _,isV_stays _,trivial⟩ (by show ∀ s ∈ [7,8,9,10,11,12,4],s<17;decide) ?_ ?_
 ·intro j hj o ho act U hb hoth hdep
  have hj':j<7:=hj
  have t2':act.tmps[(2:Nat)]?=some (Value.pointer (some ⟨w.heap.size,0,none⟩)):=(hoth 2 (by decide)).trans rfl
  have t1':act.tmps[(1:Nat)]?=some (Value.int .i64 k):=(hoth 1 (by decide)).trans rfl
  have d2:=(box_cells29 (H0.out.1.later hb).1).1
  rcases(by omega:j=0∨j=1∨j=2∨j=3∨j=4∨j=5∨j=6)with rfl|rfl|rfl|rfl|rfl|rfl|rfl
  ·obtain rfl:=Option.some.inj ho
   exact .inl ⟨rfl,owp_ldD rfl t2' d2.1 d2.2.1 d2.2.2 ⟨_,rfl,rfl,Below.refl _ _⟩⟩
  ·obtain rfl:=Option.some.inj ho
   exact .inl ⟨rfl,owp_move rfl t1' ⟨_,rfl,rfl,Below.refl _ _⟩⟩
  ·obtain rfl:=Option.some.inj ho
   have y1:act.tmps[(8:Nat)]?=_:=dV (hdep 1 (by simp[dL])) rfl
   exact .inl ⟨rfl,owp_run1 (w':=U) (by simp[execOp,y1,eval_cst,go_sem,hwk]) ⟨_,rfl,rfl,Below.refl _ _⟩⟩
  ·obtain rfl:=Option.some.inj ho
   have y2:act.tmps[(9:Nat)]?=_:=dV (hdep 2 (by simp[dL])) rfl
   refine .inl ⟨rfl,owp_call rfl (enters Tryz.func38 (by kernel_rfl) (by kernel_rfl)) (vs:=#[.int .i64 (-k)]) (by simp[eval_get y2]) ?_⟩
   refine(kT.out U).mono ?_
   rintro r w' ⟨s9,ao9,n9,cp9,e9,rfl,hA9,hb'⟩
   exact⟨_,rfl,_,rfl,hA9,hb'⟩
  ·obtain rfl:=Option.some.inj ho
   have y0:act.tmps[(7:Nat)]?=_:=dV (hdep 0 (by simp[dL])) rfl
   obtain⟨u3,y30,v3⟩:=hdep 3 (by simp[dL])
   have y3:act.tmps[(10:Nat)]?=_:=y30
   refine .inl ⟨rfl,owp_call rfl (enters Tryz.func39 (by kernel_rfl) (by kernel_rfl)) (vs:=#[.agg #[.bool s0,.slice ao0 n0 cp0,.int .i64 e0],u3]) (by simp[eval_get y0,eval_get y3]) ?_⟩
   refine(kM.out U _ _ (H0.out.1.later hb).2 v3).mono ?_
   rintro r w' ⟨s9,ao9,n9,cp9,e9,rfl,hA9,hb'⟩
   exact⟨_,rfl,_,rfl,hA9,hb'⟩
  ·obtain rfl:=Option.some.inj ho
   obtain⟨u4,y40,v4⟩:=hdep 4 (by simp[dL])
   have y4:act.tmps[(11:Nat)]?=_:=y40
   refine .inl ⟨rfl,owp_call rfl (enters Tryz.func151 (by kernel_rfl) (by kernel_rfl)) (vs:=#[u4,(Value.int IntKind.i64 2)]) (by simp[eval_get y4,eval_cst]) ?_⟩
   refine(kO.out U _ v4).mono ?_
   rintro r w' ⟨rfl,hb'⟩
   exact⟨_,rfl,_,rfl,rfl,hb'⟩
  ·obtain rfl:=Option.some.inj ho
   have y5:act.tmps[(12:Nat)]?=_:=dV (hdep 5 (by simp[dL])) rfl
   exact .inl ⟨rfl,owp_assign rfl y5 ⟨_,rfl,rfl,Below.refl _ _⟩⟩
 ·intro u W9 hb9 hu
  have u6:u 6=.float .f64 R:=hu 6 (by show 6<7;decide)
  clear hu
  simp only[putL,show List.range 7 = [0,1,2,3,4,5,6] from rfl,List.length_cons,List.length_nil,List.getD_cons_zero,List.getD_cons_succ,List.map_cons,List.map_nil,List.cons_append,List.nil_append,List.foldl_cons,List.foldl_nil,Nat.reduceLT,Nat.reduceMod,Nat.reduceDiv,Nat.reduceMul,Nat.reduceAdd,Nat.reduceEqDiff,reduceIte,Nat.one_ne_zero,Act.put,List.setIfInBounds_toArray,List.set_cons_zero,List.set_cons_succ]
  rw[u6]
  clear u6
  have H1:Hid (Bw w W9):=H0.out.2.trans (hb9.mono H0.out.2.size)
  clear hb9 H0
  go_wp2_with fail
  go_ret
  exact⟨rfl,H1.out⟩
theorem d4back_b (s0:Bool) (ao0:Option Addr) (n0 cp0:Nat) (e0:Int) (k:Int) (R:Nat) (tn tT:Bool×Nat×Int) (w:World) (hA:DN w (.agg #[.bool s0,.slice ao0 n0 cp0,.int .i64 e0]) tn) (hk:¬ k≤0)
  (kT:Hid (∀ W,Calls Tryz.prog 38 #[.int .i64 k] W fun r w'=>OutQ W tT r w'))
  (kO:Hid (∀ W X Y,DN W X tn→DN W Y tT→Calls Tryz.prog 152 #[X,Y,.int .i64 2] W fun r w'=>r=.returned (.float .f64 R)∧Bw W w')) :
  Calls Tryz.prog 84 #[.agg #[.bool s0,.slice ao0 n0 cp0,.int .i64 e0],.int .i64 k] w fun r w'=>r=.returned (.float .f64 R)∧Bw w w':=by
 obtain⟨W,hW⟩:∃ W,W=w.alloc (.cells #[.bool s0,.slice ao0 n0 cp0,.int .i64 e0] 54):=⟨_,rfl⟩
 have H0:Hid (NbQ W w.heap.size s0 ao0 n0 cp0 e0 tn∧Bw w W):=by
  have hb:Bw w W:=by rw[hW];exact(Below.refl _ _).alloc (Nat.le_refl _) _
  exact⟨⟨by rw[hW];exact heap_alloc_new _ _,hA.later hb⟩,hb⟩
 clear hA
 go_enter Tryz.func84,Tryz.ntmps84
 go_upto_region 1 with fail
 rw[←hW]
 clear hW
 go_upto_region 3 with fail
 refine r_region [0,1,2,3,4] [13,14,15,16,4] [[],[],[1],[0,2],[3]] W _ [isV (.agg #[.bool s0,.slice ao0 n0 cp0,.int .i64 e0]),isV (.int .i64 k),isD tT,isV (.float .f64 R),isV (.float .f64 R)] (by kernel_rfl) ⟨isV_stays _,isV_stays _,isD_stays _,isV_stays _,isV_stays _,trivial⟩ (by show ∀ s ∈ [13,14,15,16,4],s<17;decide) ?_ ?_
 ·intro j hj o ho act U hb hoth hdep
  have hj':j<5:=hj
  have t2':act.tmps[(2:Nat)]?=some (Value.pointer (some ⟨w.heap.size,0,none⟩)):=(hoth 2 (by decide)).trans rfl
  have t1':act.tmps[(1:Nat)]?=some (Value.int .i64 k):=(hoth 1 (by decide)).trans rfl
  have d2:=(box_cells29 (H0.out.1.later hb).1).1
  rcases(by omega:j=0∨j=1∨j=2∨j=3∨j=4)with rfl|rfl|rfl|rfl|rfl
  ·obtain rfl:=Option.some.inj ho
   exact .inl ⟨rfl,owp_ldD rfl t2' d2.1 d2.2.1 d2.2.2 ⟨_,rfl,rfl,Below.refl _ _⟩⟩
  ·obtain rfl:=Option.some.inj ho
   exact .inl ⟨rfl,owp_move rfl t1' ⟨_,rfl,rfl,Below.refl _ _⟩⟩
  ·obtain rfl:=Option.some.inj ho
   have y1:act.tmps[(14:Nat)]?=_:=dV (hdep 1 (by simp[dL])) rfl
   refine .inl ⟨rfl,owp_call rfl (enters Tryz.func38 (by kernel_rfl) (by kernel_rfl)) (vs:=#[.int .i64 k]) (by simp[eval_get y1]) ?_⟩
   refine(kT.out U).mono ?_
   rintro r w' ⟨s9,ao9,n9,cp9,e9,rfl,hA9,hb'⟩
   exact⟨_,rfl,_,rfl,hA9,hb'⟩
  ·obtain rfl:=Option.some.inj ho
   have y0:act.tmps[(13:Nat)]?=_:=dV (hdep 0 (by simp[dL])) rfl
   obtain⟨u2,y20,v2⟩:=hdep 2 (by simp[dL])
   have y2:act.tmps[(15:Nat)]?=_:=y20
   refine .inl ⟨rfl,owp_call rfl (enters Tryz.func152 (by kernel_rfl) (by kernel_rfl)) (vs:=#[.agg #[.bool s0,.slice ao0 n0 cp0,.int .i64 e0],u2,(Value.int IntKind.i64 2)]) (by simp[eval_get y0,eval_get y2,eval_cst]) ?_⟩
   refine(kO.out U _ _ (H0.out.1.later hb).2 v2).mono ?_
   rintro r w' ⟨rfl,hb'⟩
   exact⟨_,rfl,_,rfl,rfl,hb'⟩
  ·obtain rfl:=Option.some.inj ho
   have y3:act.tmps[(16:Nat)]?=_:=dV (hdep 3 (by simp[dL])) rfl
   exact .inl ⟨rfl,owp_assign rfl y3 ⟨_,rfl,rfl,Below.refl _ _⟩⟩
 ·intro u W9 hb9 hu
  have u4:u 4=.float .f64 R:=hu 4 (by show 4<5;decide)
  clear hu
  simp only[putL,show List.range 5 = [0,1,2,3,4] from rfl,List.length_cons,List.length_nil,List.getD_cons_zero,List.getD_cons_succ,List.map_cons,List.map_nil,List.cons_append,List.nil_append,List.foldl_cons,List.foldl_nil,Nat.reduceLT,Nat.reduceMod,Nat.reduceDiv,Nat.reduceMul,Nat.reduceAdd,Nat.reduceEqDiff,reduceIte,Nat.one_ne_zero,Act.put,List.setIfInBounds_toArray,List.set_cons_zero,List.set_cons_succ]
  rw[u4]
  clear u4
  have H1:Hid (Bw w W9):=H0.out.2.trans (hb9.mono H0.out.2.size)
  clear hb9 H0
  go_wp2_with fail
  go_ret
  exact⟨rfl,H1.out⟩
theorem toD_un {Z P:Nat} (s:Bool) {m:Int} (hm:1≤m∧m≤3) (hZ:Z≠0):toD (un (if s then -(Z:Int) else(Z:Int)) P) m=tfF s true Z (-(P:Int)) m:=by
 rw[un_sgn s hZ]
 unfold toD
 have h3:=(tz_spec _ _ (Nat.le_refl _) hZ).1
 have h0:¬ (Z / 2^tz Z=0):=fun h9=>by rw[h9,Nat.mul_zero] at h3;omega
 rw[if_neg (show ¬ ((s,Z / 2^tz Z,(tz Z:Int) - (P:Int)):Bool×Nat×Int).2.1=0 from h0)]
 exact to_un s (e := -(P:Int)) hm hZ
theorem tz_lt {N b:Nat} (h0:N≠0) (h:N<2^b):tz N<b:=by
 have h1:=(tz_spec _ _ (Nat.le_refl _) h0).1
 have h2:N / 2^tz N≠0:=fun h=>by rw[h,Nat.mul_zero] at h1;omega
 have h3:2^tz N*1≤2^tz N*(N / 2^tz N):=Nat.mul_le_mul_left _ (Nat.pos_of_ne_zero h2)
 rw[h1,Nat.mul_one] at h3
 exact(Nat.pow_lt_pow_iff_right (by decide)).1 (Nat.lt_of_le_of_lt h3 h)
theorem ratQ_nat {N M b d:Nat} (hN0:N≠0) (hM0:M≠0) (hN:N<2^b) (hM:M<2^d) (hb:b≤60000) (hd:d≤60000) {W:World} {A B:Value} (h1:DN W A (un (N:Int) 0)) (h2:DN W B (un (M:Int) 0)) :
  Calls Tryz.prog 152 #[A,B,.int .i64 2] W fun r w'=>r=.returned (.float .f64 (rtF (un (N:Int) 0) (un (M:Int) 0) 2))∧Bw W w':=by
 have l1:=dlen_two9 (un_small (p:=0) (nat_lt hN))
 have l2:=dlen_two9 (un_small (p:=0) (nat_lt hM))
 have t1:=tz_lt hN0 hN
 have t2:=tz_lt hM0 hM
 have e1:=un_pos hN0
 have e2:=un_pos hM0
 have h3:=tz_spec _ _ (Nat.le_refl _) hN0
 have h4:=tz_spec _ _ (Nat.le_refl _) hM0
 refine dratQ (by omega) (by omega) (by rw[e1];show -65536≤((tz N:Nat):Int)∧((tz N:Nat):Int)≤65536;omega) (by rw[e2];show -65536≤((tz M:Nat):Int)∧((tz M:Nat):Int)≤65536;omega) ?_ ?_ (by omega) h1 h2
 ·rw[e1]
  show N / 2^tz N≠0
  intro h;rw[h,Nat.mul_zero] at h3;omega
 ·rw[e2]
  show M / 2^tz M≠0
  intro h;rw[h,Nat.mul_zero] at h4;omega
def bkF (N:Nat) (k:Int):Nat:=rtF (un ((N*tnU k:Nat):Int) 0) (un ((tnO k:Nat):Int) 0) 2
theorem d4back {N b:Nat} {k:Int} {X:Value} {w:World} (h0:N≠0) (hN:N<2^b) (hb:b≤40000) (hk : -2000≤k∧k≤2000) (hX:DN w X (un (N:Int) 0)) :
  Calls Tryz.prog 84 #[X,.int .i64 k] w fun r w'=>r=.returned (.float .f64 (bkF N k))∧Bw w w':=by
 obtain⟨s,ao,n,cp,e,rfl⟩:=hX.shape
 by_cases h:0<k
 ·obtain⟨m,rfl⟩:∃ m:Nat,k=(m:Int):=⟨k.toNat,by omega⟩
  obtain⟨t1,t2⟩:=tn_p m
  refine d4back_b s ao n cp e m _ _ (un ((10^m:Nat):Int) 0) w hX (by omega) (fun W=>(d2ten m W (by omega)).mono fun r w' h=>outQ h) ?_
  intro W X Y hX hY
  unfold bkF
  rw[t1,t2,Nat.mul_one]
  exact ratQ_nat h0 (Nat.ne_of_gt (Nat.pow_pos (by decide))) hN (ten_ltN m) (by omega) (by omega) hX hY
 ·obtain⟨m,rfl⟩:∃ m:Nat,k = -(m:Int):=⟨k.natAbs,by omega⟩
  have t2:=(tn_n m).2
  have t1:=tn_n1 m
  have hp:0<10^m:=Nat.pow_pos (by decide)
  have hZ:N*10^m≠0:=Nat.mul_ne_zero h0 (by omega)
  refine d4back_a s ao n cp e _ _ _ (un ((10^m:Nat):Int) 0) (un ((N*10^m:Nat):Int) 0) w hX (by omega) (by rw[IntKind.wrap_i64];omega) ?_ ?_ ?_
  ·intro W
   rw[Int.neg_neg]
   exact(d2ten m W (by omega)).mono fun r w' h=>outQ h
  ·intro W X Y hX hY
   have h:=dtimes0 (nat_lt hN) (nat_lt (ten_ltN m)) (by omega) (by omega) hX hY
   rw[←Int.natCast_mul] at h
   exact h.mono fun r w' h=>outQ h
  ·intro W X hX
   have e3:toD (un ((N*10^m:Nat):Int) 0) 2=bkF N (-(m:Int)):=by
    unfold bkF
    rw[t1,t2]
    have h1:=toD_un (P:=0) (m:=2) false (by omega) hZ
    have h2:=rt_one_eq (P:=0) (m:=2) false (by omega) hZ
    rw[if_neg (by decide)] at h1 h2
    rw[h1,h2]
   rw[←e3]
   exact dtoQ (un_gn (nat_lt (mulN hN (ten_ltN m))) (by omega) (by omega)) (by omega) hX
theorem bk_near {a N b:Nat} {k:Int} (hN0:N≠0) (hN:N<2^b) (hb:b≤40000) (hk : -2000≤k∧k≤2000) (h0:0<a) (h:a<9218868437227405312):bkF N k=a↔Bk a N k:=by
 have h8:=hT8_eq
 have hp:0<tnU k:=Nat.pow_pos (by decide)
 have ho:0<tnO k:=Nat.pow_pos (by decide)
 unfold bkF
 rw[rt_near (Nat.mul_ne_zero hN0 (by omega)) (by omega) (mulN hN (tnO_lt hk).2) (tnO_lt hk).1 (by omega) h0 h,Nat.pow_zero,Nat.mul_one]
 unfold Bk
 have e:2*(N*tnU k)*2^kP=N*(tnU k*2^kQ):=by
  rw[kQ_n,Nat.pow_succ,Nat.mul_comm (2^kP) 2,Nat.mul_left_comm (tnU k),Nat.mul_left_comm N]
  simp only[Nat.mul_assoc]
 rw[e]
theorem bk_le {N b:Nat} {k:Int} (hN0:N≠0) (hN:N<2^b) (hb:b≤40000) (hk : -2000≤k∧k≤2000):bkF N k≤9218868437227405312:=by
 have h8:=hT8_eq
 have hp:0<tnU k:=Nat.pow_pos (by decide)
 have ho:0<tnO k:=Nat.pow_pos (by decide)
 obtain⟨X,e,h1,h2⟩:=rt_one (P:=0) (Nat.mul_ne_zero hN0 (by omega:tnU k≠0)) (by omega:tnO k≠0) (mulN hN (tnO_lt hk).2) (tnO_lt hk).1 (by omega)
 have h3:=h2 false 2 (by omega)
 rw[if_neg (by decide)] at h3
 unfold bkF
 rw[h3,sig_f]
 exact bdy_le _ _ _
theorem bk_eq {a N b:Nat} {k:Int} (hN0:N≠0) (hN:N<2^b) (hb:b≤40000) (hk : -2000≤k∧k≤2000) (h0:0<a) (h:a<9218868437227405312):(FloatKind.f64.format.order (bkF N k) a==some Ordering.eq)=true↔Bk a N k:=by
 have hl:=bk_le hN0 hN hb hk
 rw[←bk_near hN0 hN hb hk h0 h,ord_eq _ a (by omega) (by omega),eq_pos hl (by omega)]
 exact decide_eq_true_iff
end Go.Proofs.YtfkaogdmlcdceaaGreatDoor
