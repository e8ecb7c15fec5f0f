/- Own work: contracts of the program's functions, part 15: DD8 DD9 DDA DDB DD3 DDC DDD DDE DDF DDG. -/
import Derived.Test.YtijolhhlkkpdkaaGreatDoorA14
import Derived.Test.YtijolhhlkkpdkaaGreatDoorA9
import Derived.Test.YtijolhhlkkpdkaaGreatDoorA10
import Derived.Test.YtijolhhlkkpdkaaGreatDoorA8

set_option maxHeartbeats 16000000
set_option maxRecDepth 200000
set_option linter.unusedVariables false
set_option linter.unusedSimpArgs false
namespace Go.Proofs.YtijolhhlkkpdkaaGreatDoor
open Go Go.RowKit Go.Fl64
def nextP (a:Nat):Nat:=if mag a=0 then 1 else if neg a then a - 1 else a+1
theorem nextP_3 (a:Nat) (w:World) (hn:(FloatKind.f64.format.order a a != some Ordering.eq)=false) (h2:((a:Int)==9218868437227405312)=false) (h3:(FloatKind.f64.format.order a 0==some Ordering.eq)=true) :
  Calls Tryz.prog 245 #[.float .f64 a] w fun r w'=>r=.returned (.float .f64 1)∧w'=w:=by
 have kb:=Ie.run_bits
 have kf:=Ie.run_frombits
 go_enter Tryz.func245,Tryz.ntmps245
 go_wp2
 go_ret
 exact⟨rfl,rfl⟩
theorem nextP_4 (a:Nat) (r:Int) (w:World) (hn:(FloatKind.f64.format.order a a != some Ordering.eq)=false) (h2:((a:Int)==9218868437227405312)=false) (h3:(FloatKind.f64.format.order a 0==some Ordering.eq)=false) (h4:(bits .and .u64 (a:Int) 9223372036854775808 != 0)=true) (h5:IntKind.u64.wrap ((a:Int) - 1)=r) :
  Calls Tryz.prog 245 #[.float .f64 a] w fun e w'=>e=.returned (.float .f64 r.toNat)∧w'=w:=by
 have kb:=Ie.run_bits
 have kf:=Ie.run_frombits
 go_enter Tryz.func245,Tryz.ntmps245
 go_wp2
 go_ret
 exact⟨rfl,rfl⟩
theorem nextP_5 (a:Nat) (r:Int) (w:World) (hn:(FloatKind.f64.format.order a a != some Ordering.eq)=false) (h2:((a:Int)==9218868437227405312)=false) (h3:(FloatKind.f64.format.order a 0==some Ordering.eq)=false) (h4:(bits .and .u64 (a:Int) 9223372036854775808 != 0)=false) (h5:IntKind.u64.wrap ((a:Int)+1)=r) :
  Calls Tryz.prog 245 #[.float .f64 a] w fun e w'=>e=.returned (.float .f64 r.toNat)∧w'=w:=by
 have kb:=Ie.run_bits
 have kf:=Ie.run_frombits
 go_enter Tryz.func245,Tryz.ntmps245
 go_wp2
 go_ret
 exact⟨rfl,rfl⟩
theorem nextP_ok (a:Nat) (ha:a<18446744073709551616) (hn:mag a<9218868437227405312) (w:World) :
  Calls Tryz.prog 245 #[.float .f64 a] w fun r w'=>r=.returned (.float .f64 (nextP a))∧w'=w:=by
 have n1:isNaN a=false:=decide_eq_false (by omega)
 have q1:=self_ne a ha
 rw[n1] at q1
 have q2:((a:Int)==9218868437227405312)=false:=by
  rw[beq_eq_false_iff_ne]
  intro h
  have:a=9218868437227405312:=by omega
  rw[this] at hn
  revert hn;decide
 have q3:=unought ha
 have q3':(FloatKind.f64.format.order a 0==some Ordering.eq)=decide (mag a=0):=by
  have:(FloatKind.f64.format.order a 0 != some Ordering.eq) = !(FloatKind.f64.format.order a 0==some Ordering.eq):=rfl
  rw[this] at q3
  revert q3
  cases (FloatKind.f64.format.order a 0==some Ordering.eq) <;> cases decide (mag a=0) <;> simp
 have q4:(bits .and .u64 (a:Int) 9223372036854775808 != 0)=neg a:=by
  rw[and_sign a ha]
  cases neg a <;> decide
 unfold nextP
 by_cases h0:mag a=0
 ·rw[if_pos h0]
  rw[decide_eq_true h0] at q3'
  exact nextP_3 a w q1 q2 q3'
 ·rw[if_neg h0]
  rw[decide_eq_false h0] at q3'
  cases hs:neg a
  ·rw[hs] at q4
   have h9:a<9223372036854775808:=by unfold neg at hs;simpa using hs
   rw[if_neg (by decide)]
   exact nextP_5 a ((a+1:Nat):Int) w q1 q2 q3' q4 (by rw[IntKind.wrap_u64];omega)
  ·rw[hs] at q4
   have h9:9223372036854775808≤a:=by unfold neg at hs;simpa using hs
   rw[if_pos rfl]
   exact nextP_4 a ((a - 1:Nat):Int) w q1 q2 q3' q4 (by rw[IntKind.wrap_u64];omega)
theorem ptop_ok {t:Bool×Nat×Int} {X:Value} {w:World} (ok:Ok t) (h:PN w X t):Calls Tryz.prog 128 #[X] w fun r w'=>r=.returned (.int .i64 ((bl t.2.1:Nat)+t.2.2))∧Bw w w':=by
 obtain⟨pa,pc,rfl,i1⟩:=h
 have f:=ok.facts
 refine pTop_1 t.1 pa _ pc t.2.2 _ w (fun W g hW hg=>?_) (fun W' hW'=>c75 (i1.later hW') (by omega) (by omega) (by omega))
 have:=maybe1 hg (i1.later hW) (by omega)
 have ok':okN t.1 (dlen t.2.1) t.2.1 t.2.2=true:=ok
 rw[ok'] at this
 exact this
theorem ptop_un {A p b:Nat} (h:A<2^b) (h0:A≠0) (hb:b≤60000) (hp:p≤60000) {W:World} {X:Value} (hX:PN W X (un (A:Int) p)) :
  Calls Tryz.prog 128 #[X] W fun r w'=>r=.returned (.int .i64 ((bl A:Nat) - (p:Int)))∧Bw W w':=by
 have k:=ptop_ok (ok_un (nabs h) hb hp) hX
 have sp:=(tz_spec _ _ (Nat.le_refl _) h0).1
 have e1:(un (A:Int) p).2.1=A / 2^tz A:=by unfold un cn;rw[Int.natAbs_natCast,if_neg h0]
 have e2:(un (A:Int) p).2.2=(tz A:Int) - p:=by unfold un cn;rw[Int.natAbs_natCast,if_neg h0];show -(p:Int)+(tz A:Int)=_;omega
 have hx:A / 2^tz A≠0:=by intro h9;rw[h9,Nat.mul_zero] at sp;omega
 have e3:bl A=bl (A / 2^tz A)+tz A:=by
  have:=bl_shlD (x:=A / 2^tz A) (k:=tz A) hx
  rw[Nat.mul_comm,sp] at this
  exact this
 rw[e1,e2] at k
 rw[e3]
 rw[show((bl (A / 2^tz A)+tz A:Nat):Int) - (p:Int)=((bl (A / 2^tz A):Nat):Int)+((tz A:Int) - p) by push_cast;omega]
 exact k
theorem run_neg_gD {R:Nat} (h:R<9218868437227405312) (W:World):(Op.unary UnOp.neg (Value.float .f64 R)).run Tryz.prog W=.ok (.float .f64 (R+9223372036854775808)) W:=by
 have hn:Op.negFloat .f64 R=R+9223372036854775808:=by rw[Fl64.negF R (by omega)];unfold Fl64.ngt Fl64.neg;simp;omega
 rw[←hn];rfl
theorem run_neg_hD {R:Nat} (h:R<9218868437227405312) (W:World):(Op.unary UnOp.neg (Value.float .f64 (R+9223372036854775808))).run Tryz.prog W=.ok (.float .f64 R) W:=by
 have hn:Op.negFloat .f64 (R+9223372036854775808)=R:=by rw[Fl64.negF _ (by omega)];unfold Fl64.ngt Fl64.neg;simp
 have h2:(Op.unary UnOp.neg (Value.float .f64 (R+9223372036854775808))).run Tryz.prog W=.ok (.float .f64 (Op.negFloat .f64 (R+9223372036854775808))) W:=rfl
 rw[h2,hn]
theorem Dprev {a:Nat} (h0:0<a) (h1:a<9218868437227405312) (w:World):Calls Tryz.prog 210 #[.float .f64 a] w fun r w'=>r=.returned (.float .f64 (a - 1))∧w'=w:=by
 have hm:mag (a+9223372036854775808)=a:=by unfold mag;omega
 have k:=nextP_ok (a+9223372036854775808) (by omega) (by rw[hm];exact h1)
 have e:nextP (a+9223372036854775808)=a - 1+9223372036854775808:=by
  unfold nextP
  rw[hm,if_neg (by omega),if_pos (by unfold neg;exact decide_eq_true (by omega))]
  omega
 rw[e] at k
 have n1:=run_neg_gD h1
 have n2:=run_neg_hD (R:=a - 1) (by omega)
 generalize a - 1=c at *
 clear e hm h0 h1
 go_enter Tryz.func210,Tryz.ntmps210
 go_wp2_with (first|(go_at_call 245;refine(k _).mono ?_;rintro r w' ⟨rfl,hw⟩;replace hw:=hw.symm;subst hw))
 go_ret
 exact⟨rfl,rfl⟩
def utF (a:Nat):Nat:=Ie.mk false 1 (Ie.lp a) 2 9221120237041090561
theorem Dunit {a:Nat} (ha:a<18446744073709551616) (hf:mag a<9218868437227405312) (w:World):Calls Tryz.prog 211 #[.float .f64 a] w fun r w'=>r=.returned (.float .f64 (utF a))∧w'=w:=by
 obtain⟨c1,c2,-⟩:=cls_fin hf
 have kC:=fun V=>Ie.c9 a ha V
 have kL:=fun V=>Ie.c47 a ha V
 have kM:=fun V=>Ie.c24 false 1 (Ie.lp a) 2 (by omega) V
 have hc1:(cls a==1)=false:=by rw[beq_eq_false_iff_ne];exact c1
 have hc2:(cls a==2)=false:=by rw[beq_eq_false_iff_ne];exact c2
 unfold utF
 generalize cls a=c at *
 generalize Ie.lp a=L at *
 generalize Ie.mk false 1 L 2 9221120237041090561=F at *
 clear c1 c2 ha hf
 go_enter Tryz.func211,Tryz.ntmps211
 go_wp2_with (first|(go_at_call 90;refine(kC _).mono ?_;rintro r w' ⟨rfl,hw⟩;replace hw:=hw.symm;subst hw)|(go_at_call 119;refine(kL _).mono ?_;rintro r w' ⟨rfl,hw⟩;replace hw:=hw.symm;subst hw)|(go_at_call 81;refine(kM _).mono ?_;rintro r w' ⟨rfl,hw⟩;replace hw:=hw.symm;subst hw))
 go_ret
 exact⟨rfl,rfl⟩
def woX0 (A:Nat):Int:=((bl A:Nat) - (kP:Int) - 1)*1262611 / 4194304
def woX (A:Nat):Int:=if 0<unF (A:Int) (tnO (-woX0 A - 1)) (tnU (-woX0 A - 1))then woX0 A+1 else woX0 A
theorem bl_bU {A:Nat} (h:A<2^bU) (h0:A≠0):1≤bl A∧bl A≤2200:=by
 refine⟨?_,(bl_le A bU).2 h⟩
 rcases Nat.lt_or_ge 0 (bl A)with h1|h1
 ·exact h1
 ·have:=(bl_le A 0).1 h1
  rw[Nat.pow_zero] at this
  omega
theorem woX0_b {A:Nat} (h:A<2^bU) (h0:A≠0) : -400≤woX0 A∧woX0 A≤400:=by
 have hb:=bl_bU h h0
 have hk:=kP_eq
 unfold woX0
 generalize kP=x at *
 omega
theorem woX_b {A:Nat} (h:A<2^bU) (h0:A≠0) : -400≤woX A∧woX A≤401:=by
 have:=woX0_b h h0
 unfold woX
 split <;> omega
theorem Dworth {A:Nat} {X:Value} {w:World} (hT:Tab32 w) (h:A<2^bU) (h0:A≠0) (hX:PN w X (un (A:Int) kP)) :
  Calls Tryz.prog 68 #[X] w fun r w'=>r=.returned (.int .i64 (woX A))∧Bw w w':=by
 obtain⟨s3,ao3,n3,cp3,e3,rfl⟩:=hX.shape
 have hb:=bl_bU h h0
 have hw:=woX0_b h h0
 have hk:=kP_eq
 obtain⟨t1,t2,t3,t4⟩:=tn_lt (pl := -woX0 A - 1) (by omega) (by omega)
 have hF:=unF_lt (Z:=(A:Int)) (k:=bU) (l:=dB) (nabs h) t1 t3
 have k:=Dworth_1 s3 ao3 n3 cp3 e3 ((bl A:Nat) - (kP:Int)) (woX0 A) (if unF (A:Int) (tnO (-woX0 A - 1)) (tnU (-woX0 A - 1))=0 then 0 else if unF (A:Int) (tnO (-woX0 A - 1)) (tnU (-woX0 A - 1))<0 then -1 else 1) (un ((tnO (-woX0 A - 1):Nat):Int) 0) (un ((tnU (-woX0 A - 1):Nat):Int) 0) (un (A:Int) kP) (un (unF (A:Int) (tnO (-woX0 A - 1)) (tnU (-woX0 A - 1))) 0) (unX (A:Int) (tnO (-woX0 A - 1)) (tnU (-woX0 A - 1))) w hX (by omega) (by omega) rfl
  (fun W hW hX=>ptop_un (b:=bU) h h0 (by rw[bU_eq];omega) (by omega) hX)
  (fun W hW=>DtenTo (hT.later hW) (by omega) (by omega) (fun n hn=>klen hn))
  (fun s1 ao1 n1 cp1 e1 s2 ao2 n2 cp2 e2 s3 ao3 n3 cp3 e3 W hW q1 q2 q3=>Dfloor (Z:=(A:Int)) (O:=tnO (-woX0 A - 1)) (U:=tnU (-woX0 A - 1)) (p:=kP) (k:=bU) (l:=dB) (hT.later hW) ⟨_,_,_,_,_,_,_,_,_,_,rfl,q1,q2⟩ q3 (nabs h) t1 t2 t3 dk1)
  (fun W X hW hX=>psgn_un hF (Nat.le_of_lt dk3) (by omega) hX)
  (by show -1≤_∧_≤1;split <;> (try split) <;> omega)
 have e:(if 0<(if unF (A:Int) (tnO (-woX0 A - 1)) (tnU (-woX0 A - 1))=0 then(0:Int)else if unF (A:Int) (tnO (-woX0 A - 1)) (tnU (-woX0 A - 1))<0 then -1 else 1)then woX0 A+1 else woX0 A)=woX A:=by
  unfold woX
  generalize unF (A:Int) (tnO (-woX0 A - 1)) (tnU (-woX0 A - 1))=u
  by_cases c1:u=0
  ·rw[if_pos c1,c1]
  ·rw[if_neg c1]
   by_cases c2:u<0
   ·rw[if_pos c2,if_neg (by decide),if_neg (by omega)]
   ·rw[if_neg c2,if_pos (by decide),if_pos (by omega)]
 rw[e] at k
 exact k
def kQ:Nat:=1075
theorem kQ_eq:(kP:Int) - (-1)=kQ:=rfl
theorem kQ_n:kQ=kP+1:=rfl
def shX (a:Nat):Int:=woX (fU a)
def shO (a:Nat):Nat:=tnO (16 - shX a)
def shU (a:Nat):Nat:=tnU (16 - shX a)
def flQ (Z:Int) (a:Nat):Int:=Z*(shO a:Int) / ((shU a*2^kQ:Nat):Int)
def exq (Z:Int) (a:Nat):Bool:=decide (Z*(shO a:Int) % ((shU a*2^kQ:Nat):Int)=0)
def nrF (Z:Int):Nat:=tfF (un Z kQ).1 true (un Z kQ).2.1 (un Z kQ).2.2 2
def isR (Z:Int) (a:Nat):Bool:=(FloatKind.f64.format.order (nrF Z) a==some Ordering.eq)
def loZ (a:Nat):Int:=sZ (a - 1)+sZ a
def hiZ (a:Nat):Int:=sZ a*2+sZ (utF a)
def shN (a:Nat):Nat:=(flQ (loZ a) a).toNat
def shM (a:Nat):Nat:=(flQ (hiZ a) a).toNat
def shL (a:Nat):Nat:=if exq (loZ a) a&&isR (loZ a) a then shN a else shN a+1
def shH (a:Nat):Nat:=if exq (hiZ a) a && !isR (hiZ a) a then shM a - 1 else shM a
def shTz (a:Nat):Int:=sZ a*(shO a:Int) / ((shU a*2^kP1:Nat):Int)
def shT (a:Nat):Nat:=(shTz a).toNat
def shI (a:Nat):Bool:=decide (sZ a*(shO a:Int) % ((shU a*2^kP1:Nat):Int)=0)
structure ShOk (a:Nat):Prop where
 pos:0<a
 fin:a<9218868437227405312
 ut:utF a<9218868437227405312
 lo:0≤flQ (loZ a) a
 lo2:shN a<2305843009213693952
 hi:0<flQ (hiZ a) a
 hi2:shM a<2305843009213693952
 tw:0≤shTz a
 tw2:shT a<2305843009213693952
theorem mag_small {a:Nat} (h:a<9218868437227405312):mag a<9218868437227405312:=by unfold mag;omega
theorem ShOk.x {a:Nat} (h:ShOk a) : -400≤shX a∧shX a≤401:=by
 refine woX_b (fU_lt a) ?_
 intro h0
 have h1:mag a=a:=by unfold mag;have:=h.fin;omega
 have h2:=Ie.mant_ne (a:=a) (by rw[h1];have:=h.pos;omega)
 unfold fU at h0
 rcases Nat.mul_eq_zero.1 h0 with h3|h3
 ·exact h2 h3
 ·exact absurd h3 (Nat.ne_of_gt (Nat.two_pow_pos _))
theorem loZ_lt (a:Nat):(loZ a).natAbs<2^(bU+1+1):=by
 have h1:=sZ_lt (a - 1)
 have h2:=sZ_lt a
 unfold loZ
 exact pow_grow 1 (abs_add h1 h2)
theorem hiZ_lt (a:Nat):(hiZ a).natAbs<2^(bU+1+1):=by
 have h1:=sZ_lt a
 have h2:=sZ_lt (utF a)
 unfold hiZ
 have h3:(sZ a*2).natAbs<2^(bU+1):=by rw[Nat.pow_succ];omega
 exact abs_add h3 (pow_grow 1 h2)
theorem dk7:bU+1+1+dB+kQ≤60000:=by have h1:=kP_eq;have h2:=bU_eq;have h3:=dB_le;rw[kQ_n];generalize kP=x at *; generalize bU=y at *; generalize dB=z at *; omega
theorem dk8:bU+1+1≤60000:=by have h2:=bU_eq;generalize bU=y at *; omega
theorem dk9:kQ≤60000∧kP≤60000∧kP1≤60000:=by decide
theorem dkA:bU+dB+kP1≤60000:=by have h1:kP1=1073:=rfl;have h2:=bU_eq;have h3:=dB_le;generalize kP1=x at *; generalize bU=y at *; generalize dB=z at *; omega
theorem DisReadAs {Z:Int} {a:Nat} {X:Value} {w:World} (hT:Tab32 w) (hZ:Z.natAbs<2^(bU+1+1)) (hX:PN w X (un Z kQ)) :
  Calls Tryz.prog 212 #[X,.float .f64 a] w fun r w'=>r=.returned (.bool (isR Z a))∧Bw w w':=by
 obtain⟨s3,ao3,n3,cp3,e3,rfl⟩:=hX.shape
 exact DisReadAs_1 s3 ao3 n3 cp3 e3 (un Z kQ) a (nrF Z) (isR Z a) 0 w hX (fun W hW hX=>pround (hT.later hW) (ok_un hZ dk8 dk9.1) hX (by omega)) rfl
theorem DreadAs {a:Nat} {S:Value} {w:World} (hT:Tab32 w) (hI:Ie.Tab w) (ok:ShOk a) (hS:Fv w S (un ((shO a:Nat):Int) 0) (un ((shU a:Nat):Int) 0)) :
  Calls Tryz.prog 155 #[.float .f64 a,S] w fun r w'=>r=.returned (.tuple #[.int .u64 (shL a:Nat),.int .u64 (shH a:Nat)])∧Bw w w':=by
 obtain⟨s1,ao1,n1,cp1,e1,s2,ao2,n2,cp2,e2,rfl,p1,p2⟩:=hS
 have hx:=ok.x
 have hfin:=ok.fin
 have hpos:=ok.pos
 obtain⟨t1,t2,t3,t4⟩:=tn_lt (pl:=16 - shX a) (by omega) (by omega)
 have ha:a<18446744073709551616:=by omega
 have hut:=ok.ut
 have fl:∀ (Z:Int),Z.natAbs<2^(bU+1+1)→∀ W X,Bw w W→PN W (.agg #[.bool s1,.slice ao1 n1 cp1,.int .i64 e1]) (un ((shO a:Nat):Int) 0)→PN W (.agg #[.bool s2,.slice ao2 n2 cp2,.int .i64 e2]) (un ((shU a:Nat):Int) 0)→PN W X (un Z kQ)→Calls Tryz.prog 108 #[.agg #[.bool s1,.slice ao1 n1 cp1,.int .i64 e1,.bool s2,.slice ao2 n2 cp2,.int .i64 e2],X] W fun r w'=>OutFl W (un (flQ Z a) 0) (exq Z a) r w':=by
  intro Z hZ W X hW q1 q2 hX
  exact Dfloor (Z:=Z) (O:=shO a) (U:=shU a) (p:=kQ) (k:=bU+1+1) (l:=dB) (hT.later hW) ⟨_,_,_,_,_,_,_,_,_,_,rfl,q1,q2⟩ hX hZ t1 t2 t3 dk7
 have wd:∀ (Z:Int),0≤flQ Z a→(flQ Z a).toNat<2305843009213693952→∀ W X,PN W X (un (flQ Z a) 0)→Calls Tryz.prog 105 #[X] W fun r w'=>r=.returned (.int .u64 ((flQ Z a).toNat:Nat))∧Bw W w':=by
  intro Z h1 h2 W X hX
  rw[show flQ Z a=(((flQ Z a).toNat:Nat):Int) by omega] at hX
  exact Dword (by omega) hX
 refine DreadAs_1 a (a - 1) (utF a) s1 ao1 n1 cp1 e1 s2 ao2 n2 cp2 e2 _ _ (un (sZ a) kP) (un (sZ (a - 1)) kP) (un (loZ a) kP) (un (loZ a) kQ) (un (sZ (utF a)) kP) (un (sZ (utF a)) kQ) (un (hiZ a) kQ) (un (flQ (loZ a) a) 0) (un (flQ (hiZ a) a) 0) (exq (loZ a) a) (exq (hiZ a) a) (isR (loZ a) a) (isR (hiZ a) a) (shN a) (shM a) (shL a) (shH a) w rfl rfl p1 p2 (by have:=ok.lo2;omega) (by have:=ok.hi2;omega) (by show 0<shM a;have:=ok.hi;unfold shM;omega) ?_ ?_ ?_ ?_ ?_ ?_ ?_ ?_ ?_ (fl _ (loZ_lt a)) ?_ ?_ (fl _ (hiZ_lt a)) ?_ ?_
 ·intro W hW
  exact Dexact (hT.later hW) (Tab.later hI hW) ha (mag_small hfin)
 ·intro W
  refine(Dprev hpos hfin W).mono ?_
  rintro r w' ⟨rfl,rfl⟩
  exact⟨rfl,Below.refl _ _⟩
 ·intro W hW
  exact Dexact (hT.later hW) (Tab.later hI hW) (by omega) (mag_small (by omega))
 ·intro W X Y hW hX hY
  exact Dadded_op (padd_un (p:=kP) (k:=bU) (sZ_lt _) (sZ_lt _) (by rw[bU_eq];omega) dk9.2.1) (hT.later hW) hX hY
 ·intro W X hW hX
  exact Dshifted (b:=bU+1+1) (loZ_lt a) dk8 dk9.2.1 dk9.1 kQ_eq hX
 ·intro W
  refine(Dunit ha (mag_small hfin) W).mono ?_
  rintro r w' ⟨rfl,rfl⟩
  exact⟨rfl,Below.refl _ _⟩
 ·intro W hW
  exact Dexact (hT.later hW) (Tab.later hI hW) (by omega) (mag_small hut)
 ·intro W X hW hX
  exact Dshifted (b:=bU) (sZ_lt _) (by rw[bU_eq];omega) dk9.2.1 dk9.1 kQ_eq hX
 ·intro W X Y hW hX hY
  have e:un (sZ a) kP=un (sZ a*2) kQ:=un_shiftD (sZ a) kP 1
  rw[e] at hX
  exact Dadded_op (padd_un (p:=kQ) (k:=bU+1) (by have:=sZ_lt a;rw[Nat.pow_succ];omega) (pow_grow 1 (sZ_lt _)) (by rw[bU_eq];omega) dk9.1) (hT.later hW) hX hY
 ·intro W X hW hX
  exact wd _ ok.lo ok.lo2 W X hX
 ·intro _ W X hW hX
  exact DisReadAs (hT.later hW) (loZ_lt a) hX
 ·intro W X hW hX
  exact wd _ (Int.le_of_lt ok.hi) ok.hi2 W X hX
 ·intro _ W X hW hX
  exact DisReadAs (hT.later hW) (hiZ_lt a) hX
def fwS (L H T:Nat):Nat→Nat→Nat
 | 0,j=>j
 | n+1,j=>if 1<fwU j∧fwL T j<L∧H<fwL T j+fwU j then fwS L H T n (j+1)else j
theorem fwS_spec (L H T:Nat):∀ n j,n+j=16→(∀ i,i<j→1<fwU i∧fwL T i<L∧H<fwL T i+fwU i) →
  (∀ i,i<fwS L H T n j→1<fwU i∧fwL T i<L∧H<fwL T i+fwU i)∧¬ (1<fwU (fwS L H T n j)∧fwL T (fwS L H T n j)<L∧H<fwL T (fwS L H T n j)+fwU (fwS L H T n j)):=by
 intro n
 induction n with
 | zero =>
  intro j hj h
  obtain rfl:j=16:=by omega
  exact⟨h,fun g=>absurd g.1 (by show ¬ 1<fwU 16;decide)⟩
 | succ n ih =>
  intro j hj h
  unfold fwS
  by_cases c:1<fwU j∧fwL T j<L∧H<fwL T j+fwU j
  ·rw[if_pos c]
   refine ih (j+1) (by omega) (fun i hi=>?_)
   by_cases e:i=j
   ·rw[e];exact c
   ·exact h i (by omega)
  ·rw[if_neg c]
   exact⟨h,c⟩
def shJ (a:Nat):Nat:=fwS (shL a) (shH a) (shT a) 16 0
def shA (a:Nat):Bool:=decide (fwU (shJ a)<shT a - 2*fwL (shT a) (shJ a))||(decide (shT a - 2*fwL (shT a) (shJ a)=fwU (shJ a))&&(!shI a||decide (fwL (shT a) (shJ a) / fwU (shJ a) % 2=1)))
def shF (a:Nat):Nat:=if fwL (shT a) (shJ a)<shL a∨(shA a=true∧fwL (shT a) (shJ a)+fwU (shJ a)≤shH a)then fwL (shT a) (shJ a)+fwU (shJ a)else fwL (shT a) (shJ a)
theorem shF_lt {a:Nat} (ok:ShOk a):shF a<18446744073709551616:=by
 have h1:=fwL_le (shT a) (shJ a)
 have h2:=fwU_le (shJ a)
 have h3:=ok.tw2
 unfold shF
 split <;> omega
theorem shL_lt {a:Nat} (ok:ShOk a):shL a<4611686018427387904∧shH a<4611686018427387904:=by
 have h1:=ok.lo2
 have h2:=ok.hi2
 unfold shL shH
 constructor <;> split <;> omega
theorem Dfewest {a:Nat} {X S:Value} {w:World} (hT:Tab32 w) (hI:Ie.Tab w) (ok:ShOk a) (hX:PN w X (un (sZ a) kP)) (hS:Fv w S (un ((shO a:Nat):Int) 0) (un ((shU a:Nat):Int) 0)) :
  Calls Tryz.prog 92 #[.float .f64 a,X,S] w fun r w'=>r=.returned (.int .u64 (shF a:Nat))∧Bw w w':=by
 obtain⟨s1,ao1,n1,cp1,e1,s2,ao2,n2,cp2,e2,rfl,p1,p2⟩:=hS
 obtain⟨s3,ao3,n3,cp3,e3,rfl⟩:=hX.shape
 have hx:=ok.x
 obtain⟨t1,t2,t3,t4⟩:=tn_lt (pl:=16 - shX a) (by omega) (by omega)
 obtain⟨j1,j2⟩:=fwS_spec (shL a) (shH a) (shT a) 16 0 rfl (fun i hi=>absurd hi (Nat.not_lt_zero _))
 obtain⟨l1,l2⟩:=shL_lt ok
 have htw:=ok.tw
 have htw2:=ok.tw2
 refine Dfewest_1 a s1 ao1 n1 cp1 e1 s2 ao2 n2 cp2 e2 s3 ao3 n3 cp3 e3 _ _ _ (un (sZ a) kP1) (un (shTz a) 0) (un ((10^16:Nat):Int) 0) (shI a) (shA a) (shL a) (shH a) (shT a) (shJ a) (shF a) w p1 p2 hX l1 l2 (by omega) j1 j2 rfl rfl ?_ ?_ ?_ ?_ ?_ ?_
 ·intro W hW q1 q2
  exact DreadAs (hT.later hW) (Tab.later hI hW) ok ⟨_,_,_,_,_,_,_,_,_,_,rfl,q1,q2⟩
 ·intro W X hW hX
  exact Dshifted (b:=bU) (sZ_lt _) (by rw[bU_eq];omega) dk9.2.1 dk9.2.2 kP1_eq hX
 ·intro W X hW q1 q2 hX
  exact Dfloor (Z:=sZ a) (O:=shO a) (U:=shU a) (p:=kP1) (k:=bU) (l:=dB) (hT.later hW) ⟨_,_,_,_,_,_,_,_,_,_,rfl,q1,q2⟩ hX (sZ_lt a) t1 t2 t3 dkA
 ·intro W X hW hX
  rw[show shTz a=((shT a:Nat):Int) by unfold shT;omega] at hX
  exact Dword (by omega) hX
 ·intro W hW
  exact Dpower (bs:=10) (n:=16) (b:=60) (hT.later hW) (by omega) (by omega) (by omega) (by decide) (by omega) (fun V=>c156 16 (by omega) V)
 ·intro W X hW hX
  have e9:fwU 0=10000000000000000:=by decide
  rw[e9]
  have e8:(10:Nat)^16=10000000000000000:=by decide
  rw[e8] at hX
  exact Dword (N:=10000000000000000) (by decide) hX
def shD (a:Nat):List UInt8:=Lib.trimRightB (dcT (shF a)) 48
def shE (a:Nat):Int:=(dcT (shF a)).length - 1 - (16 - shX a)
theorem shF_len {a:Nat} (ok:ShOk a):(dcT (shF a)).length≤36:=by
 have:=dcT_len (N:=shF a) (b:=64) (by rw[show(2:Nat)^64=18446744073709551616 from by decide];exact shF_lt ok)
 omega
theorem trimR_len (L:List UInt8) (c:UInt8):(Lib.trimRightB L c).length≤L.length:=by
 unfold Lib.trimRightB
 rw[List.length_reverse]
 have:=(List.dropWhile_sublist (fun x=>x==c) (l:=L.reverse)).length_le
 rw[List.length_reverse] at this
 exact this
theorem Dshortest {a:Nat} {w:World} (hT:Tab32 w) (hI:Ie.Tab w) (ok:ShOk a) :
  Calls Tryz.prog 37 #[.float .f64 a] w fun r w'=>r=.returned (.tuple #[.string ⟨(shD a).toArray⟩,.int .i64 (shE a)])∧Bw w w':=by
 have hx:=ok.x
 have hfin:=ok.fin
 have hpos:=ok.pos
 have hn:neg a=false:=by unfold neg;exact decide_eq_false (by omega)
 have hz:sZ a=((fU a:Nat):Int):=by unfold sZ;rw[hn];rfl
 have hf0:fU a≠0:=by
  intro h0
  have h1:mag a=a:=by unfold mag;omega
  have h2:=Ie.mant_ne (a:=a) (by rw[h1];omega)
  unfold fU at h0
  rcases Nat.mul_eq_zero.1 h0 with h3|h3
  ·exact h2 h3
  ·exact absurd h3 (Nat.ne_of_gt (Nat.two_pow_pos _))
 have hl:=shF_len ok
 refine Dshortest_1 a (shX a) (shF a) (un (sZ a) kP) (un ((shO a:Nat):Int) 0) (un ((shU a:Nat):Int) 0) (un ((shF a:Nat):Int) 0) (dcT (shF a)) (shD a) w (by omega) (by omega) ?_ ?_ ?_ ?_ ?_ ?_ ?_
 ·intro W hW
  exact Dexact (hT.later hW) (Tab.later hI hW) (by omega) (mag_small hfin)
 ·intro W X hW hX
  rw[hz] at hX
  exact Dworth (hT.later hW) (fU_lt a) hf0 hX
 ·intro W hW
  exact DtenTo (hT.later hW) (by omega) (by omega) (fun n hn=>klen hn)
 ·intro W X S hW hX hS
  exact Dfewest (hT.later hW) (Tab.later hI hW) ok hX hS
 ·intro W hW
  exact DofWord (hT.later hW) (shF_lt ok)
 ·intro W X hW hX
  exact DwholeText (b:=64) (hT.later hW) (by rw[show(2:Nat)^64=18446744073709551616 from by decide];exact shF_lt ok) (by omega) hX
 ·intro W hW
  have:=Tryz.strings_TrimRight_one ⟨(dcT (shF a)).toArray⟩ 48 (by decide) W (by show(dcT (shF a)).length≤_;omega)
  refine this.mono ?_
  rintro r w' ⟨rfl,rfl⟩
  exact⟨rfl,Below.refl _ _⟩
def shS (a:Nat):List UInt8:=if shE a < -5∨20<shE a then exL (shD a) (Lib.itoa (shE a))else ptL (shD a) ((shD a).length - 1 - shE a)
theorem exL_len (d t:List UInt8):(exL d t).length≤d.length+t.length+3:=by
 unfold exL
 rw[List.length_append,List.length_append,List.length_cons,List.length_take]
 by_cases h:1<d.length
 ·rw[if_pos h,List.length_cons,List.length_drop];omega
 ·rw[if_neg h,List.length_nil];omega
theorem shS_len {a:Nat} (hl2:(shD a).length≤36) (hE : -1000≤shE a∧shE a≤1000):(shS a).length≤20000:=by
 have h1:=Lib.itoa_length_le (shE a) (by omega) (by omega)
 have h3:=exL_len (shD a) (Lib.itoa (shE a))
 have h2:=pt_len (d:=shD a) (p:=(shD a).length - 1 - shE a)
 unfold shS
 generalize shD a=D at *
 generalize shE a=E at *
 generalize Lib.itoa E=I at *
 by_cases h:E < -5∨20<E
 ·rw[if_pos h];omega
 ·rw[if_neg h];omega
theorem DShortest {a:Nat} {w:World} (hT:Tab32 w) (hI:Ie.Tab w) (h10:Tab10 w) (ok:ShOk a) (hd:0<(shD a).length) :
  Calls Tryz.prog 13 #[.float .f64 a] w fun r w'=>r=.returned (.string ⟨(shS a).toArray⟩)∧Bw w w':=by
 have hfin:=ok.fin
 have hpos:=ok.pos
 have hx:=ok.x
 have hl:=shF_len ok
 have hl2:(shD a).length≤36:=Nat.le_trans (trimR_len _ _) hl
 have hE : -1000≤shE a∧shE a≤1000:=by unfold shE;omega
 obtain⟨c1,c2,c3⟩:=cls_fin (mag_small hfin)
 have hn:neg a=false:=by unfold neg;exact decide_eq_false (by omega)
 have hlen:(shS a).length≤20000:=shS_len hl2 hE
 have e:sgL (neg a) (shS a)=shS a:=by unfold sgL;rw[hn,if_neg (by decide)]
 rw[←e]
 refine DShortest_1 a _ w ?_
 intro W g1 hW b1
 have kC:=fun V=>Ie.c9 a (by omega) V
 rw[c3] at kC
 refine Dtold_fin a _ _ (neg a) _ _ W c1 c2 hlen kC (enters Tryz.func36 (by kernel_rfl) (by kernel_rfl)) ?_
 refine DShort1_1 a a (shE a) (shD a) (shS a) g1 W b1 ?_ (by omega) (by omega) (fun V=>?_) ?_ ?_ ?_
 ·have q3:=unought (a:=a) (by omega)
  have h1:mag a≠0:=by unfold mag;omega
  rw[decide_eq_false h1] at q3
  have e9:(FloatKind.f64.format.order a 0 != some Ordering.eq) = !(FloatKind.f64.format.order a 0==some Ordering.eq):=rfl
  rw[e9] at q3
  simpa using q3
 ·have h1:mag a=a:=by unfold mag;omega
  have:=c159 a (by omega) V
  rw[h1] at this
  exact this
 ·exact Dshortest (hT.later hW) (Tab.later hI hW) ok
 ·intro hc V hV
  unfold shS
  rw[if_pos hc]
  exact Dexpon_1 (shD a) (Lib.itoa (shE a)) (shE a) V hd (by omega) (by have:=Lib.itoa_length_le (shE a) (by omega) (by omega);show(Lib.itoa (shE a)).length≤100;omega) (fun U hU=>Ditoa (by omega) (((h10.later hW).later hV).later hU))
 ·intro hc V hV
  unfold shS
  rw[if_neg hc]
  exact Dpointed (by omega) (by omega) (knz V)
def rdA (s:List UInt8) (m:Int):Nat×Int :=
 if ¬ (1≤m∧m≤3) then(0,1)else if 1048576<s.length then(0,2)
 else if csD s = [105,110,102] then((if csS s<0 then 18442240474082181120 else 9218868437227405312),0)else if csD s = [110,97,110] then(9221120237041090561,0)
 else if psOk (csD s)=false then(0,3)else if 1100<(psD (csD s)).length then(0,2)
 else(rdFl (decide (csS s<0)) (psb (csD s)) (psD (csD s)) (psH (csD s)) (psX (csD s)) m,0)
theorem exX_le (E:List UInt8) : -6000≤exX E∧exX E≤6000:=by
 unfold exX
 split
 ·have h:=rdE_le (csD E) (csD E).length
  have hsg:csS E=1∨csS E = -1:=by unfold csS;split <;> simp
  rcases hsg with h1|h1 <;> rw[h1] <;> omega
 ·omega
theorem psX_le (L:List UInt8) : -6000≤psX L∧psX L≤6000:=by
 unfold psX
 split
 ·exact exX_le _
 ·omega
theorem psb_or (L:List UInt8):(psb L=((10:Nat):Int)∧True)∨(psb L=((16:Nat):Int)∧True):=by
 unfold psb
 split
 ·exact .inr ⟨rfl,trivial⟩
 ·exact .inl ⟨rfl,trivial⟩
theorem psOk_dg {L:List UInt8} (h:psOk L=true):allDg (psD L) (psb L)=true:=by
 unfold psOk at h
 rw[Bool.and_eq_true] at h
 have h2:=h.2
 unfold dgO at h2
 rw[Bool.and_eq_true] at h2
 exact h2.1
theorem psH_le (L:List UInt8):psH L≤(psD L).length:=by unfold psH psD;rw[List.length_append];omega
theorem DRead {s:List UInt8} {m:Int} {w:World} (hT:Tab32 w) :
  Calls Tryz.prog 9 #[.string ⟨s.toArray⟩,.int .i64 m] w fun r w'=>r=.returned (.tuple #[.float .f64 (rdA s m).1,.int .i64 (rdA s m).2])∧Bw w w':=by
 unfold rdA
 have k0:=DisMode m
 by_cases hm:1≤m∧m≤3
 ·rw[if_neg (not_not_intro hm)]
  rw[decide_eq_true hm] at k0
  by_cases hL:1048576<s.length
  ·rw[if_pos hL]
   exact DRead_long s m w hL k0
  ·rw[if_neg hL]
   have kC:=fun W=>DcutSign s W (by omega)
   have hdl:=csD_len s
   have hsg:csS s=1∨csS s = -1:=by unfold csS;split <;> simp
   by_cases h1:csD s = [105,110,102]
   ·rw[if_pos h1]
    refine DRead_inf s (csD s) m (csS s) _ w (by omega) k0 kC h1 (fun W=>?_)
    rcases hsg with e|e
    ·rw[e,if_neg (by decide)];exact cinf_p W
    ·rw[e,if_pos (by decide)];exact cinf_m W
   ·rw[if_neg h1]
    by_cases h2:csD s = [110,97,110]
    ·rw[if_pos h2]
     exact DRead_nan s (csD s) m (csS s) _ w (by omega) k0 kC h2 (fun W=>Ie.c52 W)
    ·rw[if_neg h2]
     have g1:(csD s == [105,110,102])=false:=by rw[beq_eq_false_iff_ne];exact h1
     have g2:(csD s == [110,97,110])=false:=by rw[beq_eq_false_iff_ne];exact h2
     by_cases h3:psOk (csD s)=false
     ·rw[if_pos h3]
      refine DRead_form s (csD s) m (csS s) w (by omega) k0 kC g1 g2 (fun W hW=>?_)
      refine(Dsplit (csD s) W (by omega)).mono ?_
      rintro r w' ⟨b',D,h,x,rfl,-,hb⟩
      exact⟨b',D,h,x,by rw[h3],hb⟩
     ·rw[if_neg h3]
      have h3':psOk (csD s)=true:=by simpa using h3
      have kS:∀ W,Calls Tryz.prog 29 #[.string ⟨(csD s).toArray⟩] W fun r w'=>r=.returned (.tuple #[.agg #[.int .i64 (psb (csD s)),.string ⟨(psD (csD s)).toArray⟩,.int .i64 (psH (csD s):Int),.int .i64 (psX (csD s))],.bool true])∧Bw W w':=fun W=>by
       refine(Dsplit (csD s) W (by omega)).mono ?_
       rintro r w' ⟨b',D,h,x,rfl,hh,hb⟩
       obtain⟨e1,e2,e3,e4⟩:=hh h3'
       exact⟨by rw[e1,e2,e3,e4,h3'],hb⟩
      by_cases h4:1100<(psD (csD s)).length
      ·rw[if_pos h4]
       exact DRead_digits s (csD s) (psD (csD s)) m (csS s) _ _ _ w (by omega) k0 kC g1 g2 (fun W _=>kS W) h4
      ·rw[if_neg h4]
       refine DRead_ok s (csD s) (psD (csD s)) m (csS s) _ _ _ w (by omega) k0 kC g1 g2 (fun W _=>kS W) _ (by omega) (fun W hW=>?_)
       have hdg:=psOk_dg h3'
       have hx:=psX_le (csD s)
       have hh:=psH_le (csD s)
       rcases psb_or (csD s)with ⟨e,-⟩|⟨e,-⟩
       ·rw[e] at hdg ⊢
        exact Drounded (hT.later hW) (.inl rfl) hdg (by omega) (by omega) hx hm
       ·rw[e] at hdg ⊢
        exact Drounded (hT.later hW) (.inr rfl) hdg (by omega) (by omega) hx hm
 ·rw[if_pos hm]
  rw[decide_eq_false hm] at k0
  exact DRead_mode s m w k0
theorem wk_1:rdA [48,46,49] 2=(4591870180066957722,0):=by decide +kernel
theorem wk_2:rdA [45,49,101,45,52,48,48] 1=(9223372036854775809,0):=by decide +kernel
theorem wk_3:(rdA [49,120] 2).2=3:=by decide +kernel
theorem wk_4:sgL (neg 4612811918334230528) (ptL (dcT (uN 4612811918334230528 0 2)) 0) = [50]:=by decide +kernel
theorem wk_5:sgL (neg 4602678819172646912) (ptL (dcT (uN 4602678819172646912 (exP 4602678819172646912) 2)) (exP 4602678819172646912)) = [48,46,53]:=by decide +kernel
theorem wk_6:sgL (neg 4591870180066957722) (hxT 4591870180066957722) = [48,120,49,46,57,57,57,57,57,57,57,57,57,57,57,57,97,112,45,52]:=by decide +kernel
theorem wk_7:ShOk 4599075939470750515:=⟨by decide,by decide,by decide +kernel,by decide +kernel,by decide +kernel,by decide +kernel,by decide +kernel,by decide +kernel,by decide +kernel⟩
theorem wk_8:ShOk 4921056587992461136:=⟨by decide,by decide,by decide +kernel,by decide +kernel,by decide +kernel,by decide +kernel,by decide +kernel,by decide +kernel,by decide +kernel⟩
theorem wk_9:shS 4599075939470750515 = [48,46,51]∧0<(shD 4599075939470750515).length:=by decide +kernel
theorem wk_A:shS 4921056587992461136 = [49,101,50,49]∧0<(shD 4921056587992461136).length:=by decide +kernel
theorem Dlike (a b:Nat) (ha:a<18446744073709551616) (hb:b<18446744073709551616) (w:World) :
  Calls Tryz.prog 11 #[.float .f64 a,.float .f64 b] w fun r w'=>r=.returned (.bool (same a b))∧w'=w:=by
 have kb:=Ie.run_bits
 have q1:=self_ne a ha
 have q2:=self_ne b hb
 have e:same a b=(((a:Int)==(b:Int))||(isNaN a&&isNaN b)):=rfl
 rw[e]
 clear e
 cases ha':isNaN a
 ·rw[ha'] at q1
  clear q2 ha'
  go_enter Tryz.func11,Tryz.ntmps11
  go_wp2
  go_ret
  exact⟨by simp,rfl⟩
 ·rw[ha'] at q1
  clear ha'
  cases hb':isNaN b
  ·rw[hb'] at q2
   clear hb'
   go_enter Tryz.func11,Tryz.ntmps11
   go_wp2
   go_ret
   exact⟨by simp,rfl⟩
  ·rw[hb'] at q2
   clear hb'
   go_enter Tryz.func11,Tryz.ntmps11
   go_wp2
   go_ret
   exact⟨by simp,rfl⟩
theorem same_selfD (a:Nat):same a a=true:=by unfold same;simp
theorem Dworks_1 (e3:Nat) (w:World)
  (k1:∀ W,Bw w W→Calls Tryz.prog 9 #[.string ⟨#[48,46,49]⟩,.int .i64 2] W fun r w'=>r=.returned (.tuple #[.float .f64 4591870180066957722,.int .i64 0])∧Bw W w')
  (k2:∀ W,Bw w W→Calls Tryz.prog 9 #[.string ⟨#[45,49,101,45,52,48,48]⟩,.int .i64 1] W fun r w'=>r=.returned (.tuple #[.float .f64 9223372036854775809,.int .i64 0])∧Bw W w')
  (k3:∀ W,Bw w W→Calls Tryz.prog 9 #[.string ⟨#[49,120]⟩,.int .i64 2] W fun r w'=>r=.returned (.tuple #[.float .f64 e3,.int .i64 3])∧Bw W w')
  (k4:∀ W,Bw w W→Calls Tryz.prog 19 #[.float .f64 4612811918334230528,.int .i64 0,.int .i64 2] W fun r w'=>r=.returned (.tuple #[.string ⟨#[50]⟩,.int .i64 0])∧Bw W w')
  (k5:∀ W,Bw w W→Calls Tryz.prog 13 #[.float .f64 4599075939470750515] W fun r w'=>r=.returned (.string ⟨#[48,46,51]⟩)∧Bw W w')
  (k6:∀ W,Bw w W→Calls Tryz.prog 13 #[.float .f64 4921056587992461136] W fun r w'=>r=.returned (.string ⟨#[49,101,50,49]⟩)∧Bw W w')
  (k7:∀ W,Bw w W→Calls Tryz.prog 17 #[.float .f64 4591870180066957722] W fun r w'=>r=.returned (.string ⟨#[48,120,49,46,57,57,57,57,57,57,57,57,57,57,57,57,97,112,45,52]⟩)∧Bw W w')
  (k8:∀ W,Bw w W→Calls Tryz.prog 15 #[.float .f64 4602678819172646912] W fun r w'=>r=.returned (.string ⟨#[48,46,53]⟩)∧Bw W w')
  (m1:∀ W,Calls Tryz.prog 11 #[.float .f64 4591870180066957722,.float .f64 4591870180066957722] W fun r w'=>r=.returned (.bool true)∧w'=W)
  (m2:∀ W,Calls Tryz.prog 11 #[.float .f64 9223372036854775809,.float .f64 9223372036854775809] W fun r w'=>r=.returned (.bool true)∧w'=W) :
  Calls Tryz.prog 12 #[] w fun r w'=>r=.returned (.bool true)∧Bw w w':=by
 have q1:=k1 w (Below.refl _ _)
 have K2:Hid _:=k2
 have K3:Hid _:=k3
 have K4:Hid _:=k4
 have K5:Hid _:=k5
 have K6:Hid _:=k6
 have K7:Hid _:=k7
 have K8:Hid _:=k8
 clear k1 k2 k3 k4 k5 k6 k7 k8
 go_enter Tryz.func12,Tryz.ntmps12
 go_wp2_with fail
 refine q1.mono ?_
 rintro r w1 ⟨rfl,b1⟩
 have B1:Hid (Bw w w1):=b1
 have q2:=K2.out w1 b1
 clear q1 b1 K2
 go_wp2_with fail
 refine q2.mono ?_
 rintro r w2 ⟨rfl,b2⟩
 have B2:Hid (Bw w w2):=B1.out.trans (b2.mono B1.out.size)
 have q3:=K3.out w2 B2.out
 clear q2 b2 B1 K3
 go_wp2_with fail
 refine q3.mono ?_
 rintro r w3 ⟨rfl,b3⟩
 have B3:Hid (Bw w w3):=B2.out.trans (b3.mono B2.out.size)
 have q4:=K4.out w3 B3.out
 clear q3 b3 B2 K4
 go_wp2_with fail
 refine q4.mono ?_
 rintro r w4 ⟨rfl,b4⟩
 have B4:Hid (Bw w w4):=B3.out.trans (b4.mono B3.out.size)
 have q5:=K5.out w4 B4.out
 clear q4 b4 B3 K5
 go_wp2_with fail
 refine(m1 _).mono ?_
 rintro r w' ⟨rfl,hw⟩
 replace hw:=hw.symm
 subst hw
 clear m1
 go_wp2_with fail
 refine(m2 _).mono ?_
 rintro r w' ⟨rfl,hw⟩
 replace hw:=hw.symm
 subst hw
 clear m2
 go_wp2_with fail
 refine q5.mono ?_
 rintro r w5 ⟨rfl,b5⟩
 have B5:Hid (Bw w w5):=B4.out.trans (b5.mono B4.out.size)
 have q6:=K6.out w5 B5.out
 clear q5 b5 B4 K6
 go_wp2_with fail
 refine q6.mono ?_
 rintro r w6 ⟨rfl,b6⟩
 have B6:Hid (Bw w w6):=B5.out.trans (b6.mono B5.out.size)
 have q7:=K7.out w6 B6.out
 clear q6 b6 B5 K7
 go_wp2_with fail
 refine q7.mono ?_
 rintro r w7 ⟨rfl,b7⟩
 have B7:Hid (Bw w w7):=B6.out.trans (b7.mono B6.out.size)
 have q8:=K8.out w7 B7.out
 clear q7 b7 B6 K8
 go_wp2_with fail
 refine q8.mono ?_
 rintro r w8 ⟨rfl,b8⟩
 have B8:Hid (Bw w w8):=B7.out.trans (b8.mono B7.out.size)
 clear q8 b8 B7
 go_wp2
 go_ret
 exact⟨rfl,B8.out⟩
theorem Dworks {w:World} (hT:Tab32 w) (hI:Ie.Tab w) (h10:Tab10 w):Calls Tryz.prog 12 #[] w fun r w'=>r=.returned (.bool true)∧Bw w w':=by
 have like:∀ a,a<18446744073709551616→∀ W,Calls Tryz.prog 11 #[.float .f64 a,.float .f64 a] W fun r w'=>r=.returned (.bool true)∧w'=W:=fun a ha W=>by
  have:=Dlike a a ha ha W
  rw[same_selfD] at this
  exact this
 refine Dworks_1 (rdA [49,120] 2).1 w ?_ ?_ ?_ ?_ ?_ ?_ ?_ ?_ (like _ (by decide)) (like _ (by decide))
 ·intro W hW
  have:=DRead (s := [48,46,49]) (m:=2) (hT.later hW)
  rw[wk_1] at this
  exact this
 ·intro W hW
  have:=DRead (s := [45,49,101,45,52,48,48]) (m:=1) (hT.later hW)
  rw[wk_2] at this
  exact this
 ·intro W hW
  have:=DRead (s := [49,120]) (m:=2) (hT.later hW)
  rw[wk_3] at this
  exact this
 ·intro W hW
  have:=DFixed (a:=4612811918334230528) (pl:=0) (m:=2) (hT.later hW) (Tab.later hI hW) (by decide) (by decide) (by decide) (by decide) (by decide)
  rw[wk_4] at this
  exact this
 ·intro W hW
  have:=DShortest (hT.later hW) (Tab.later hI hW) (h10.later hW) wk_7 wk_9.2
  rw[wk_9.1] at this
  exact this
 ·intro W hW
  have:=DShortest (hT.later hW) (Tab.later hI hW) (h10.later hW) wk_8 wk_A.2
  rw[wk_A.1] at this
  exact this
 ·intro W hW
  have:=DHex (a:=4591870180066957722) (Tab.later hI hW) (h10.later hW) (by decide) (by decide)
  rw[wk_6] at this
  exact this
 ·intro W hW
  have:=DExact (a:=4602678819172646912) (hT.later hW) (Tab.later hI hW) (by decide) (by decide)
  rw[wk_5] at this
  exact this
theorem bl_geD {x n:Nat} (h:2^n≤x):n+1≤bl x:=by
 rcases Nat.lt_or_ge n (bl x)with h1|h1
 ·exact h1
 ·have:=(bl_le x n).1 h1
  omega
theorem bl_pow_le {x:Nat} (h:x≠0):2^(bl x - 1)≤x:=by
 rcases Nat.lt_or_ge x (2^(bl x - 1))with h1|h1
 ·have h2:=(bl_le x (bl x - 1)).2 h1
  have h3:bl x=0:=by omega
  have h4:=(bl_le x 0).1 (by omega)
  rw[Nat.pow_zero] at h4
  omega
 ·exact h1
theorem rt_bl {x y k:Nat} (hx:x≠0) (hy:y≠0) (hk:64+bl y≤bl x+k):64≤bl (x*2^k / y):=by
 have h1:=bl_pow_le hx
 have h2:y<2^bl y:=(bl_le y (bl y)).1 (Nat.le_refl _)
 have h0:1≤bl x:=by
  rcases Nat.lt_or_ge 0 (bl x)with h|h
  ·exact h
  ·have h4:=(bl_le x 0).1 (by omega)
   rw[Nat.pow_zero] at h4
   omega
 refine bl_geD (n:=63) ?_
 rw[Nat.le_div_iff_mul_le (by omega)]
 have h3:2^63*y≤2^63*2^bl y:=Nat.mul_le_mul_left _ (by omega)
 have h4:2^(bl x - 1)*2^k≤x*2^k:=Nat.mul_le_mul_right _ h1
 rw[←Nat.pow_add] at h3 h4
 have h5:(2:Nat)^(63+bl y)≤2^(bl x - 1+k):=Nat.pow_le_pow_right (by decide) (by omega)
 omega
theorem tf_one (ex:Bool) (q:Nat) (h:Int) (hq:64≤bl q) (hh : -65535≤h):∃ (x:Nat) (e:Int),-65536≤e∧∀ (s:Bool) (m:Int),1≤m∧m≤3→tfF s ex q h m=sig s (bdy x e (wyN s m)):=by
 cases ex
 ·exact⟨2*q+1,h - 1,by omega,fun s m hm=>by rw[tf_sticky hq,tf_bdy hm]⟩
 ·exact⟨q,h,by omega,fun s m hm=>tf_bdy hm⟩
theorem rt_one {Z:Nat} {P U b c:Nat} (hZ:Z≠0) (hU:U≠0) (hZb:Z<2^b) (hUb:U<2^c) (hP:P+c≤60000):∃ (x:Nat) (e:Int),-65536≤e∧∀ (s:Bool) (m:Int),1≤m∧m≤3→rtF (un (if s then -(Z:Int) else(Z:Int)) P) (un (U:Int) 0) m=sig s (bdy x e (wyN s m)):=by
 have eU:un (U:Int) 0=(false,U / 2^tz U,(tz U:Int)):=by
  unfold un cn
  rw[Int.natAbs_natCast,if_neg hU,decide_eq_false (by omega)]
  simp
 have eZ:∀ s:Bool,un (if s then -(Z:Int) else(Z:Int)) P=(s,Z / 2^tz Z,(tz Z:Int) - (P:Int)):=by
  intro s
  cases s
  ·rw[if_neg (by decide)]
   unfold un cn
   rw[Int.natAbs_natCast,if_neg hZ,decide_eq_false (by omega)]
   simp;omega
  ·rw[if_pos rfl]
   unfold un cn
   rw[Int.natAbs_neg,Int.natAbs_natCast,if_neg hZ,decide_eq_true (by omega)]
   simp;omega
 have sU:=(tz_spec _ _ (Nat.le_refl _) hU).1
 have sZ':=(tz_spec _ _ (Nat.le_refl _) hZ).1
 have hx:Z / 2^tz Z≠0:=by intro h9;rw[h9,Nat.mul_zero] at sZ';omega
 have hy:U / 2^tz U≠0:=by intro h9;rw[h9,Nat.mul_zero] at sU;omega
 have bU':bl U=bl (U / 2^tz U)+tz U:=by
  have:=bl_shlD (x:=U / 2^tz U) (k:=tz U) hy
  rw[Nat.mul_comm,sU] at this
  exact this
 have hbU:bl U≤c:=(bl_le U c).2 hUb
 generalize U / 2^tz U=y at *
 generalize Z / 2^tz Z=x at *
 have hk:64+bl y≤bl x+(max 0 (64+(bl y:Int) - (bl x:Int))).toNat:=by omega
 obtain⟨X,e,h1,h2⟩:=tf_one (decide (x*2^(max 0 (64+(bl y:Int) - (bl x:Int))).toNat % y=0)) (x*2^(max 0 (64+(bl y:Int) - (bl x:Int))).toNat / y) ((tz Z:Int) - (P:Int) - (tz U:Int) - (max 0 (64+(bl y:Int) - (bl x:Int))).toNat) (rt_bl hx hy hk) (by omega)
 refine⟨X,e,h1,fun s m hm=>?_⟩
 rw[eU,eZ s]
 unfold rtF rtK
 rw[←h2 s m hm]
 simp
theorem rd_one {b:Int} {D:List UInt8} {h:Nat} {x:Int} (hb:b=10∨b=16) (hd:allDg D b=true) (hl:D.length≤1100) (hh:h≤1100) (hx : -6000≤x∧x≤6000):∃ (X:Nat) (e:Int),-65536≤e∧∀ (s:Bool) (m:Int),1≤m∧m≤3→rdFl s b D h x m=sig s (bdy X e (wyN s m)):=by
 obtain⟨o1,o2,o3,o4,o5⟩:=rO_lt hb hh hx
 unfold rdFl
 have hN:dvP b.toNat D D.length<2^(4*D.length):=by
  rcases hb with rfl|rfl
  ·exact dvP_b (.inl rfl) hd _ (Nat.le_refl _)
  ·exact dvP_b (.inr rfl) hd _ (Nat.le_refl _)
 generalize dvP b.toNat D D.length=N at *
 by_cases h0:N=0
 ·refine⟨0,0,by omega,fun s m hm=>?_⟩
  rw[if_pos h0]
  unfold bdy
  rw[if_pos rfl]
 ·have hz:N*rO b h x≠0:=Nat.mul_ne_zero h0 (by omega)
  obtain⟨X,e,h1,h2⟩:=rt_one (Z:=N*rO b h x) (P:=rP b h x) (U:=rU b h x) (b:=4*D.length+dQ) (c:=dQ) hz (by omega) (mul_lt2 hN o1) o2 (by rw[dQ_eq];omega)
  refine⟨X,e,h1,fun s m hm=>?_⟩
  rw[if_neg h0,←h2 s m hm]
  congr 2
  cases s
  ·rw[if_neg (by decide),if_neg (by decide),Int.natCast_mul]
  ·rw[if_pos rfl,if_pos rfl,Int.natCast_mul,Int.neg_mul]
theorem nan_D {F:Nat} (h:F≤9218868437227405312) (w:World):Calls Tryz.prog 71 #[.float .f64 F] w fun e w'=>e=.returned (.bool false)∧w'=w:=by
 have h1:=self_ne F (by omega)
 have h2:isNaN F=false:=by unfold isNaN mag;exact decide_eq_false (by omega)
 rw[h2] at h1
 go_enter Tryz.func71,Tryz.ntmps71
 go_wp2
 go_ret
 exact⟨rfl,rfl⟩
theorem stp_pos {a:Nat} (h:a≤9218868437227405312):stp a=(a:Int):=by
 have h1:neg a=false:=by unfold neg;exact decide_eq_false (by omega)
 have h2:mag a=a:=by unfold mag;omega
 unfold stp sgn
 rw[h1,h2];rfl
theorem lt_pos {a b:Nat} (ha:a≤9218868437227405312) (hb:b≤9218868437227405312):lt a b=decide (a<b):=by
 have h1:isNaN a=false:=by unfold isNaN mag;exact decide_eq_false (by omega)
 have h2:isNaN b=false:=by unfold isNaN mag;exact decide_eq_false (by omega)
 have e1:=stp_pos ha
 have e2:=stp_pos hb
 unfold lt
 rw[h1,h2,e1,e2]
 by_cases h:a<b
 ·rw[decide_eq_true h,decide_eq_true (by omega)];rfl
 ·rw[decide_eq_false h,decide_eq_false (by omega)];rfl
theorem eq_pos {a b:Nat} (ha:a≤9218868437227405312) (hb:b≤9218868437227405312):eq a b=decide (a=b):=by
 have h1:isNaN a=false:=by unfold isNaN mag;exact decide_eq_false (by omega)
 have h2:isNaN b=false:=by unfold isNaN mag;exact decide_eq_false (by omega)
 have e1:=stp_pos ha
 have e2:=stp_pos hb
 unfold eq
 rw[h1,h2,e1,e2]
 by_cases h:a=b
 ·rw[decide_eq_true h,decide_eq_true (by omega)];rfl
 ·rw[decide_eq_false h,decide_eq_false (by omega)];rfl
theorem Dnextafter {a:Nat} (h:a<9218868437227405312) (w:World):Calls Tryz.prog 23 #[.float .f64 a,.float .f64 9218868437227405312] w fun r w'=>r=.returned (.float .f64 (a+1))∧w'=w:=by
 have kn1:=nan_D (F:=a) (by omega)
 have kn2:=nan_D (F:=9218868437227405312) (by omega)
 have kb:=Ie.run_bits
 have kf:=Ie.run_frombits
 have o1:=ord_eq a 9218868437227405312 (by omega) (by decide)
 rw[eq_pos (by omega) (by omega),decide_eq_false (by omega)] at o1
 have o2:=ord_eq a 0 (by omega) (by decide)
 rw[eq_pos (by omega) (by omega)] at o2
 have o3:=ord_gt 9218868437227405312 a (by decide) (by omega)
 rw[lt_pos (by omega) (by omega),decide_eq_true (by omega)] at o3
 have o4:=ord_gt a 0 (by omega) (by decide)
 rw[lt_pos (by omega) (by omega)] at o4
 have kc:=pcopysign 1 9218868437227405312 (by decide) (by decide)
 have ec:sig (neg 9218868437227405312) (mag 1)=1:=by decide
 rw[ec] at kc
 by_cases h0:a=0
 ·subst h0
  go_enter Tryz.func23,Tryz.ntmps23
  go_wp2_with (first|(go_at_call 71;first|(with_reducible refine(kn1 _).mono ?_;rintro r w' ⟨rfl,hw⟩;replace hw:=hw.symm;subst hw)|(with_reducible refine(kn2 _).mono ?_;rintro r w' ⟨rfl,hw⟩;replace hw:=hw.symm;subst hw))|(go_at_call 72;refine(kc _).mono ?_;rintro r w' ⟨rfl,hw⟩;replace hw:=hw.symm;subst hw))
  go_ret
  exact⟨rfl,rfl⟩
 ·rw[decide_eq_false h0] at o2
  rw[decide_eq_true (by omega)] at o4
  have hw1:IntKind.u64.wrap ((a:Int)+1)=((a+1:Nat):Int):=by rw[IntKind.wrap_u64];omega
  clear h0 kc ec
  go_enter Tryz.func23,Tryz.ntmps23
  go_wp2_with (first|(go_at_call 71;first|(with_reducible refine(kn1 _).mono ?_;rintro r w' ⟨rfl,hw⟩;replace hw:=hw.symm;subst hw)|(with_reducible refine(kn2 _).mono ?_;rintro r w' ⟨rfl,hw⟩;replace hw:=hw.symm;subst hw)))
  go_ret
  exact⟨by simp,rfl⟩
theorem Dmodes_sign (s0 S:List UInt8) (p1 p2:Bool) (w:World) (hL:s0.length≤4611686018427387904) (hp1:p1=(!s0.isEmpty&&(decide (bL s0 0=43)||decide (bL s0 0=45)))) (hS:Hid (S=if p1=true then s0.tail else s0)) (hp2:p2=(!S.isEmpty&&(decide (bL S 0=43)||decide (bL S 0=45))))
  (kW:Hid (∀ W,Bw w W→Calls Tryz.prog 12 #[] W fun r w'=>r=.returned (.bool true)∧Bw W w')) (h2:p2=true) :
  Calls Tryz.prog 7 #[.string ⟨s0.toArray⟩] w fun r w'=>r=.returned (.bool true)∧Bw w w':=by
 obtain⟨R,hR⟩:∃ R:ByteArray,R=⟨s0.toArray⟩:=⟨_,rfl⟩
 have hRe:R.toList.isEmpty=s0.isEmpty:=by rw[hR];exact bytes_empty _
 have hRs:R.size=s0.length:=by rw[hR];rfl
 have hRg:∀ h,(R[0]'h).toNat=bL s0 0:=by subst hR;exact fun h=>bL_get s0 0 h
 obtain⟨T,hT0⟩:∃ T:ByteArray,T=⟨S.toArray⟩:=⟨_,rfl⟩
 have hTe:T.toList.isEmpty=S.isEmpty:=by rw[hT0];exact bytes_empty _
 have hTs:T.size=S.length:=by rw[hT0];rfl
 have hTg:∀ h,(T[0]'h).toNat=bL S 0:=by subst hT0;exact fun h=>bL_get S 0 h
 have HT:Hid (T=⟨S.toArray⟩):=hT0
 have Hp1:Hid (p1=(!s0.isEmpty&&(decide (bL s0 0=43)||decide (bL s0 0=45)))):=hp1
 have Hp2:Hid (p2=(!S.isEmpty&&(decide (bL S 0=43)||decide (bL S 0=45)))):=hp2
 have hx:p1=true→R.extract 1 R.size=T:=fun h=>by
  rw[hRs,hR,hT0,hS.out,if_pos h]
  have:=ext_drop s0 1
  rw[List.drop_one] at this
  exact this
 have hx2:p1=false→R=T:=fun h=>by rw[hR,hT0,hS.out,if_neg (by rw[h];decide)]
 have hl1:p1=true→(1:Int)≤(R.size:Int):=fun h=>by
  rw[Hp1.out,Bool.and_eq_true] at h
  have:0<s0.length:=by cases s0 with|nil=>simp at h|cons a t=>simp
  omega
 have HX:Hid ((p1=true→R.extract 1 R.size=T∧(1:Int)≤(R.size:Int))∧(p1=false→R=T)):=⟨fun h=>⟨hx h,hl1 h⟩,hx2⟩
 have hTb:T.size≤4611686018427387904:=by
  rw[hTs,hS.out]
  split
  ·rw[List.length_tail];omega
  ·omega
 rw[←hR]
 clear hx hx2 hl1 hp1 hp2 hR hT0 hS
 go_enter Tryz.func7,Tryz.ntmps7
 go_upto_region 1 with fail
 go_cut [23] from 12 to 22 (fun v wx=>v=.bool p1∧wx=w)
 case first =>
  cases he:s0.isEmpty
  ·rw[he] at hRe
   have hs0:(0:Int)<(R.size:Int):=by
    have:0<s0.length:=by cases s0 with|nil=>simp at he|cons a t=>simp
    omega
   have hp':=Hp1.out
   by_cases c1:bL s0 0=43
   ·have e1:((bL s0 0:Int)==43)=true:=by rw[c1];rfl
    have HP:Hid (p1=true):=(by rw[hp'];simp[he,c1]:p1=true)
    clear hp' he c1
    generalize bL s0 0=c at *
    go_wp2
    go_meet
    exact⟨by rw[HP.out],rfl⟩
   ·have e1:((bL s0 0:Int)==43)=false:=by rw[beq_eq_false_iff_ne];omega
    by_cases c2:bL s0 0=45
    ·have e2:((bL s0 0:Int)==45)=true:=by rw[c2];rfl
     have HP:Hid (p1=true):=(by rw[hp'];simp[he,c2]:p1=true)
     clear hp' he c1 c2
     generalize bL s0 0=c at *
     go_wp2
     go_meet
     exact⟨by rw[HP.out],rfl⟩
    ·have e2:((bL s0 0:Int)==45)=false:=by rw[beq_eq_false_iff_ne];omega
     have HP:Hid (p1=false):=(by rw[hp'];simp[he,c1,c2]:p1=false)
     clear hp' he c1 c2
     generalize bL s0 0=c at *
     go_wp2
     go_meet
     exact⟨by rw[HP.out],rfl⟩
  ·rw[he] at hRe
   have HP:Hid (p1=false):=(by rw[Hp1.out];simp[he]:p1=false)
   go_wp2
   go_meet
   exact⟨by rw[HP.out],rfl⟩
 case rest =>
 obtain⟨rfl,hw⟩:=hcut
 replace hw:=hw.symm
 subst hw
 go_upto_if 23 with fail
 go_cut [0] from 24 to 25 (fun v wx=>v=.string T∧wx=w)
 case first =>
  cases p1
  ·obtain rfl:=HX.out.2 rfl
   go_wp2
   go_meet
   exact⟨rfl,rfl⟩
  ·obtain⟨e1,e2⟩:=HX.out.1 rfl
   rw[hRs] at e1 e2
   go_wp2
   go_meet
   exact⟨rfl,rfl⟩
 case rest =>
 obtain⟨rfl,hw⟩:=hcut
 replace hw:=hw.symm
 subst hw
 clear HX Hp1 hRe hRs hRg
 go_upto_region 3 with fail
 go_cut [37] from 26 to 36 (fun v wx=>v=.bool p2∧wx=w)
 case first =>
  cases he:S.isEmpty
  ·rw[he] at hTe
   have hs0:(0:Int)<(T.size:Int):=by
    have:0<S.length:=by cases S with|nil=>simp at he|cons a t=>simp
    omega
   have hp':=Hp2.out
   by_cases c1:bL S 0=43
   ·have e1:((bL S 0:Int)==43)=true:=by rw[c1];rfl
    have HP:Hid (p2=true):=(by rw[hp'];simp[he,c1]:p2=true)
    clear hp' he c1
    generalize bL S 0=c at *
    go_wp2
    go_meet
    exact⟨by rw[HP.out],rfl⟩
   ·have e1:((bL S 0:Int)==43)=false:=by rw[beq_eq_false_iff_ne];omega
    by_cases c2:bL S 0=45
    ·have e2:((bL S 0:Int)==45)=true:=by rw[c2];rfl
     have HP:Hid (p2=true):=(by rw[hp'];simp[he,c2]:p2=true)
     clear hp' he c1 c2
     generalize bL S 0=c at *
     go_wp2
     go_meet
     exact⟨by rw[HP.out],rfl⟩
    ·have e2:((bL S 0:Int)==45)=false:=by rw[beq_eq_false_iff_ne];omega
     have HP:Hid (p2=false):=(by rw[hp'];simp[he,c1,c2]:p2=false)
     clear hp' he c1 c2
     generalize bL S 0=c at *
     go_wp2
     go_meet
     exact⟨by rw[HP.out],rfl⟩
  ·rw[he] at hTe
   have HP:Hid (p2=false):=(by rw[Hp2.out];simp[he]:p2=false)
   go_wp2
   go_meet
   exact⟨by rw[HP.out],rfl⟩
 case rest =>
 obtain⟨rfl,hw⟩:=hcut
 replace hw:=hw.symm
 subst hw
 clear Hp2 hTe hTg
 subst h2
 have q1:=kW.out w (Below.refl _ _)
 clear kW
 go_wp2_with fail
 refine q1.mono ?_
 rintro r w1 ⟨rfl,b1⟩
 have B1:Hid (Bw w w1):=b1
 clear q1 b1
 go_wp2
 go_ret
 exact⟨rfl,B1.out⟩
theorem Dmodes_err (s0 S:List UInt8) (p1 p2:Bool) (w:World) (hL:s0.length≤4611686018427387904) (hp1:p1=(!s0.isEmpty&&(decide (bL s0 0=43)||decide (bL s0 0=45)))) (hS:Hid (S=if p1=true then s0.tail else s0)) (hp2:p2=(!S.isEmpty&&(decide (bL S 0=43)||decide (bL S 0=45))))
  (kW:Hid (∀ W,Bw w W→Calls Tryz.prog 12 #[] W fun r w'=>r=.returned (.bool true)∧Bw W w')) (a b c d:Nat) (E H:Int) (h2:p2=false)
  (k1:Hid (∀ W,Bw w W→Calls Tryz.prog 9 #[.string ⟨(S).toArray⟩,.int .i64 1] W fun r w'=>r=.returned (.tuple #[.float .f64 a,.int .i64 E])∧Bw W w'))
  (k2:Hid (∀ W,Bw w W→Calls Tryz.prog 9 #[.string ⟨(S).toArray⟩,.int .i64 2] W fun r w'=>r=.returned (.tuple #[.float .f64 b,.int .i64 E])∧Bw W w'))
  (k3:Hid (∀ W,Bw w W→Calls Tryz.prog 9 #[.string ⟨(S).toArray⟩,.int .i64 3] W fun r w'=>r=.returned (.tuple #[.float .f64 c,.int .i64 E])∧Bw W w'))
  (k4:Hid (∀ W,Bw w W→Calls Tryz.prog 9 #[.string ⟨(45 :: S).toArray⟩,.int .i64 1] W fun r w'=>r=.returned (.tuple #[.float .f64 d,.int .i64 H])∧Bw W w')) (hE:E≠0) (hH:Hid (H=E∨(H≠E∧1048576≤S.length))) :
  Calls Tryz.prog 7 #[.string ⟨s0.toArray⟩] w fun r w'=>r=.returned (.bool true)∧Bw w w':=by
 obtain⟨R,hR⟩:∃ R:ByteArray,R=⟨s0.toArray⟩:=⟨_,rfl⟩
 have hRe:R.toList.isEmpty=s0.isEmpty:=by rw[hR];exact bytes_empty _
 have hRs:R.size=s0.length:=by rw[hR];rfl
 have hRg:∀ h,(R[0]'h).toNat=bL s0 0:=by subst hR;exact fun h=>bL_get s0 0 h
 obtain⟨T,hT0⟩:∃ T:ByteArray,T=⟨S.toArray⟩:=⟨_,rfl⟩
 have hTe:T.toList.isEmpty=S.isEmpty:=by rw[hT0];exact bytes_empty _
 have hTs:T.size=S.length:=by rw[hT0];rfl
 have hTg:∀ h,(T[0]'h).toNat=bL S 0:=by subst hT0;exact fun h=>bL_get S 0 h
 have HT:Hid (T=⟨S.toArray⟩):=hT0
 have Hp1:Hid (p1=(!s0.isEmpty&&(decide (bL s0 0=43)||decide (bL s0 0=45)))):=hp1
 have Hp2:Hid (p2=(!S.isEmpty&&(decide (bL S 0=43)||decide (bL S 0=45)))):=hp2
 have hx:p1=true→R.extract 1 R.size=T:=fun h=>by
  rw[hRs,hR,hT0,hS.out,if_pos h]
  have:=ext_drop s0 1
  rw[List.drop_one] at this
  exact this
 have hx2:p1=false→R=T:=fun h=>by rw[hR,hT0,hS.out,if_neg (by rw[h];decide)]
 have hl1:p1=true→(1:Int)≤(R.size:Int):=fun h=>by
  rw[Hp1.out,Bool.and_eq_true] at h
  have:0<s0.length:=by cases s0 with|nil=>simp at h|cons a t=>simp
  omega
 have HX:Hid ((p1=true→R.extract 1 R.size=T∧(1:Int)≤(R.size:Int))∧(p1=false→R=T)):=⟨fun h=>⟨hx h,hl1 h⟩,hx2⟩
 have hTb:T.size≤4611686018427387904:=by
  rw[hTs,hS.out]
  split
  ·rw[List.length_tail];omega
  ·omega
 rw[←hR]
 clear hx hx2 hl1 hp1 hp2 hR hT0 hS
 go_enter Tryz.func7,Tryz.ntmps7
 go_upto_region 1 with fail
 go_cut [23] from 12 to 22 (fun v wx=>v=.bool p1∧wx=w)
 case first =>
  cases he:s0.isEmpty
  ·rw[he] at hRe
   have hs0:(0:Int)<(R.size:Int):=by
    have:0<s0.length:=by cases s0 with|nil=>simp at he|cons a t=>simp
    omega
   have hp':=Hp1.out
   by_cases c1:bL s0 0=43
   ·have e1:((bL s0 0:Int)==43)=true:=by rw[c1];rfl
    have HP:Hid (p1=true):=(by rw[hp'];simp[he,c1]:p1=true)
    clear hp' he c1
    generalize bL s0 0=c at *
    go_wp2
    go_meet
    exact⟨by rw[HP.out],rfl⟩
   ·have e1:((bL s0 0:Int)==43)=false:=by rw[beq_eq_false_iff_ne];omega
    by_cases c2:bL s0 0=45
    ·have e2:((bL s0 0:Int)==45)=true:=by rw[c2];rfl
     have HP:Hid (p1=true):=(by rw[hp'];simp[he,c2]:p1=true)
     clear hp' he c1 c2
     generalize bL s0 0=c at *
     go_wp2
     go_meet
     exact⟨by rw[HP.out],rfl⟩
    ·have e2:((bL s0 0:Int)==45)=false:=by rw[beq_eq_false_iff_ne];omega
     have HP:Hid (p1=false):=(by rw[hp'];simp[he,c1,c2]:p1=false)
     clear hp' he c1 c2
     generalize bL s0 0=c at *
     go_wp2
     go_meet
     exact⟨by rw[HP.out],rfl⟩
  ·rw[he] at hRe
   have HP:Hid (p1=false):=(by rw[Hp1.out];simp[he]:p1=false)
   go_wp2
   go_meet
   exact⟨by rw[HP.out],rfl⟩
 case rest =>
 obtain⟨rfl,hw⟩:=hcut
 replace hw:=hw.symm
 subst hw
 go_upto_if 23 with fail
 go_cut [0] from 24 to 25 (fun v wx=>v=.string T∧wx=w)
 case first =>
  cases p1
  ·obtain rfl:=HX.out.2 rfl
   go_wp2
   go_meet
   exact⟨rfl,rfl⟩
  ·obtain⟨e1,e2⟩:=HX.out.1 rfl
   rw[hRs] at e1 e2
   go_wp2
   go_meet
   exact⟨rfl,rfl⟩
 case rest =>
 obtain⟨rfl,hw⟩:=hcut
 replace hw:=hw.symm
 subst hw
 clear HX Hp1 hRe hRs hRg
 go_upto_region 3 with fail
 go_cut [37] from 26 to 36 (fun v wx=>v=.bool p2∧wx=w)
 case first =>
  cases he:S.isEmpty
  ·rw[he] at hTe
   have hs0:(0:Int)<(T.size:Int):=by
    have:0<S.length:=by cases S with|nil=>simp at he|cons a t=>simp
    omega
   have hp':=Hp2.out
   by_cases c1:bL S 0=43
   ·have e1:((bL S 0:Int)==43)=true:=by rw[c1];rfl
    have HP:Hid (p2=true):=(by rw[hp'];simp[he,c1]:p2=true)
    clear hp' he c1
    generalize bL S 0=c at *
    go_wp2
    go_meet
    exact⟨by rw[HP.out],rfl⟩
   ·have e1:((bL S 0:Int)==43)=false:=by rw[beq_eq_false_iff_ne];omega
    by_cases c2:bL S 0=45
    ·have e2:((bL S 0:Int)==45)=true:=by rw[c2];rfl
     have HP:Hid (p2=true):=(by rw[hp'];simp[he,c2]:p2=true)
     clear hp' he c1 c2
     generalize bL S 0=c at *
     go_wp2
     go_meet
     exact⟨by rw[HP.out],rfl⟩
    ·have e2:((bL S 0:Int)==45)=false:=by rw[beq_eq_false_iff_ne];omega
     have HP:Hid (p2=false):=(by rw[hp'];simp[he,c1,c2]:p2=false)
     clear hp' he c1 c2
     generalize bL S 0=c at *
     go_wp2
     go_meet
     exact⟨by rw[HP.out],rfl⟩
  ·rw[he] at hTe
   have HP:Hid (p2=false):=(by rw[Hp2.out];simp[he]:p2=false)
   go_wp2
   go_meet
   exact⟨by rw[HP.out],rfl⟩
 case rest =>
 obtain⟨rfl,hw⟩:=hcut
 replace hw:=hw.symm
 subst hw
 clear Hp2 hTe hTg
 subst h2
 have q1:=k1.out w (Below.refl _ _)
 have hcat:(⟨#[45]⟩:ByteArray)++T=⟨(45 :: S).toArray⟩:=by rw[HT.out,show(⟨#[45]⟩:ByteArray)=⟨[45].toArray⟩from rfl,bytes_cat];rfl
 have hcsz:(⟨#[45]⟩:ByteArray).size+T.size≤9223372036854775807:=by show 1+T.size≤_;omega
 rw[←HT.out] at q1
 clear k1
 go_wp2_with fail
 refine q1.mono ?_
 rintro r w1 ⟨rfl,b1⟩
 have B1:Hid (Bw w w1):=b1
 have q2:=k2.out w1 B1.out
 rw[←HT.out] at q2
 clear q1 b1 k2
 go_wp2_with fail
 refine q2.mono ?_
 rintro r w2 ⟨rfl,b2⟩
 have B2:Hid (Bw w w2):=B1.out.trans (b2.mono B1.out.size)
 have q3:=k3.out w2 B2.out
 rw[←HT.out] at q3
 clear q2 b2 B1 k3
 go_wp2_with fail
 refine q3.mono ?_
 rintro r w3 ⟨rfl,b3⟩
 have B3:Hid (Bw w w3):=B2.out.trans (b3.mono B2.out.size)
 have q4:=k4.out w3 B3.out
 clear q3 b3 B2 k4
 go_wp2_with fail
 refine q4.mono ?_
 rintro r w4 ⟨rfl,b4⟩
 have B4:Hid (Bw w w4):=B3.out.trans (b4.mono B3.out.size)
 have qW:=kW.out w4 B4.out
 clear q4 b4 B3 kW hcat hcsz
 rw[hTs] at hTb
 have e0:¬ E=0:=hE
 clear hE
 rcases hH.out with h1|⟨h1,h3⟩
 ·subst h1
  clear hH
  go_wp2_with fail
  refine qW.mono ?_
  rintro r w5 ⟨rfl,b5⟩
  have B5:Hid (Bw w w5):=B4.out.trans (b5.mono B4.out.size)
  clear qW b5
  go_wp2
  go_ret
  exact⟨rfl,B5.out⟩
 ·have e2:¬ H=E:=h1
  have e3:(1048576:Int)≤(S.length:Int):=by omega
  clear h1 h3 hH
  go_wp2_with fail
  refine qW.mono ?_
  rintro r w5 ⟨rfl,b5⟩
  have B5:Hid (Bw w w5):=B4.out.trans (b5.mono B4.out.size)
  clear qW b5
  go_wp2
  go_ret
  exact⟨rfl,B5.out⟩
theorem Dmodes_nan (s0 S:List UInt8) (p1 p2:Bool) (w:World) (hL:s0.length≤4611686018427387904) (hp1:p1=(!s0.isEmpty&&(decide (bL s0 0=43)||decide (bL s0 0=45)))) (hS:Hid (S=if p1=true then s0.tail else s0)) (hp2:p2=(!S.isEmpty&&(decide (bL S 0=43)||decide (bL S 0=45))))
  (kW:Hid (∀ W,Bw w W→Calls Tryz.prog 12 #[] W fun r w'=>r=.returned (.bool true)∧Bw W w')) (a b c d:Nat) (E H:Int) (h2:p2=false)
  (k1:Hid (∀ W,Bw w W→Calls Tryz.prog 9 #[.string ⟨(S).toArray⟩,.int .i64 1] W fun r w'=>r=.returned (.tuple #[.float .f64 a,.int .i64 E])∧Bw W w'))
  (k2:Hid (∀ W,Bw w W→Calls Tryz.prog 9 #[.string ⟨(S).toArray⟩,.int .i64 2] W fun r w'=>r=.returned (.tuple #[.float .f64 b,.int .i64 E])∧Bw W w'))
  (k3:Hid (∀ W,Bw w W→Calls Tryz.prog 9 #[.string ⟨(S).toArray⟩,.int .i64 3] W fun r w'=>r=.returned (.tuple #[.float .f64 c,.int .i64 E])∧Bw W w'))
  (k4:Hid (∀ W,Bw w W→Calls Tryz.prog 9 #[.string ⟨(45 :: S).toArray⟩,.int .i64 1] W fun r w'=>r=.returned (.tuple #[.float .f64 d,.int .i64 H])∧Bw W w')) (hE:E=0) (na:(FloatKind.f64.format.order a a != some Ordering.eq)=true) (nb:(FloatKind.f64.format.order b b != some Ordering.eq)=true) (nc:(FloatKind.f64.format.order c c != some Ordering.eq)=true) :
  Calls Tryz.prog 7 #[.string ⟨s0.toArray⟩] w fun r w'=>r=.returned (.bool true)∧Bw w w':=by
 obtain⟨R,hR⟩:∃ R:ByteArray,R=⟨s0.toArray⟩:=⟨_,rfl⟩
 have hRe:R.toList.isEmpty=s0.isEmpty:=by rw[hR];exact bytes_empty _
 have hRs:R.size=s0.length:=by rw[hR];rfl
 have hRg:∀ h,(R[0]'h).toNat=bL s0 0:=by subst hR;exact fun h=>bL_get s0 0 h
 obtain⟨T,hT0⟩:∃ T:ByteArray,T=⟨S.toArray⟩:=⟨_,rfl⟩
 have hTe:T.toList.isEmpty=S.isEmpty:=by rw[hT0];exact bytes_empty _
 have hTs:T.size=S.length:=by rw[hT0];rfl
 have hTg:∀ h,(T[0]'h).toNat=bL S 0:=by subst hT0;exact fun h=>bL_get S 0 h
 have HT:Hid (T=⟨S.toArray⟩):=hT0
 have Hp1:Hid (p1=(!s0.isEmpty&&(decide (bL s0 0=43)||decide (bL s0 0=45)))):=hp1
 have Hp2:Hid (p2=(!S.isEmpty&&(decide (bL S 0=43)||decide (bL S 0=45)))):=hp2
 have hx:p1=true→R.extract 1 R.size=T:=fun h=>by
  rw[hRs,hR,hT0,hS.out,if_pos h]
  have:=ext_drop s0 1
  rw[List.drop_one] at this
  exact this
 have hx2:p1=false→R=T:=fun h=>by rw[hR,hT0,hS.out,if_neg (by rw[h];decide)]
 have hl1:p1=true→(1:Int)≤(R.size:Int):=fun h=>by
  rw[Hp1.out,Bool.and_eq_true] at h
  have:0<s0.length:=by cases s0 with|nil=>simp at h|cons a t=>simp
  omega
 have HX:Hid ((p1=true→R.extract 1 R.size=T∧(1:Int)≤(R.size:Int))∧(p1=false→R=T)):=⟨fun h=>⟨hx h,hl1 h⟩,hx2⟩
 have hTb:T.size≤4611686018427387904:=by
  rw[hTs,hS.out]
  split
  ·rw[List.length_tail];omega
  ·omega
 rw[←hR]
 clear hx hx2 hl1 hp1 hp2 hR hT0 hS
 go_enter Tryz.func7,Tryz.ntmps7
 go_upto_region 1 with fail
 go_cut [23] from 12 to 22 (fun v wx=>v=.bool p1∧wx=w)
 case first =>
  cases he:s0.isEmpty
  ·rw[he] at hRe
   have hs0:(0:Int)<(R.size:Int):=by
    have:0<s0.length:=by cases s0 with|nil=>simp at he|cons a t=>simp
    omega
   have hp':=Hp1.out
   by_cases c1:bL s0 0=43
   ·have e1:((bL s0 0:Int)==43)=true:=by rw[c1];rfl
    have HP:Hid (p1=true):=(by rw[hp'];simp[he,c1]:p1=true)
    clear hp' he c1
    generalize bL s0 0=c at *
    go_wp2
    go_meet
    exact⟨by rw[HP.out],rfl⟩
   ·have e1:((bL s0 0:Int)==43)=false:=by rw[beq_eq_false_iff_ne];omega
    by_cases c2:bL s0 0=45
    ·have e2:((bL s0 0:Int)==45)=true:=by rw[c2];rfl
     have HP:Hid (p1=true):=(by rw[hp'];simp[he,c2]:p1=true)
     clear hp' he c1 c2
     generalize bL s0 0=c at *
     go_wp2
     go_meet
     exact⟨by rw[HP.out],rfl⟩
    ·have e2:((bL s0 0:Int)==45)=false:=by rw[beq_eq_false_iff_ne];omega
     have HP:Hid (p1=false):=(by rw[hp'];simp[he,c1,c2]:p1=false)
     clear hp' he c1 c2
     generalize bL s0 0=c at *
     go_wp2
     go_meet
     exact⟨by rw[HP.out],rfl⟩
  ·rw[he] at hRe
   have HP:Hid (p1=false):=(by rw[Hp1.out];simp[he]:p1=false)
   go_wp2
   go_meet
   exact⟨by rw[HP.out],rfl⟩
 case rest =>
 obtain⟨rfl,hw⟩:=hcut
 replace hw:=hw.symm
 subst hw
 go_upto_if 23 with fail
 go_cut [0] from 24 to 25 (fun v wx=>v=.string T∧wx=w)
 case first =>
  cases p1
  ·obtain rfl:=HX.out.2 rfl
   go_wp2
   go_meet
   exact⟨rfl,rfl⟩
  ·obtain⟨e1,e2⟩:=HX.out.1 rfl
   rw[hRs] at e1 e2
   go_wp2
   go_meet
   exact⟨rfl,rfl⟩
 case rest =>
 obtain⟨rfl,hw⟩:=hcut
 replace hw:=hw.symm
 subst hw
 clear HX Hp1 hRe hRs hRg
 go_upto_region 3 with fail
 go_cut [37] from 26 to 36 (fun v wx=>v=.bool p2∧wx=w)
 case first =>
  cases he:S.isEmpty
  ·rw[he] at hTe
   have hs0:(0:Int)<(T.size:Int):=by
    have:0<S.length:=by cases S with|nil=>simp at he|cons a t=>simp
    omega
   have hp':=Hp2.out
   by_cases c1:bL S 0=43
   ·have e1:((bL S 0:Int)==43)=true:=by rw[c1];rfl
    have HP:Hid (p2=true):=(by rw[hp'];simp[he,c1]:p2=true)
    clear hp' he c1
    generalize bL S 0=c at *
    go_wp2
    go_meet
    exact⟨by rw[HP.out],rfl⟩
   ·have e1:((bL S 0:Int)==43)=false:=by rw[beq_eq_false_iff_ne];omega
    by_cases c2:bL S 0=45
    ·have e2:((bL S 0:Int)==45)=true:=by rw[c2];rfl
     have HP:Hid (p2=true):=(by rw[hp'];simp[he,c2]:p2=true)
     clear hp' he c1 c2
     generalize bL S 0=c at *
     go_wp2
     go_meet
     exact⟨by rw[HP.out],rfl⟩
    ·have e2:((bL S 0:Int)==45)=false:=by rw[beq_eq_false_iff_ne];omega
     have HP:Hid (p2=false):=(by rw[hp'];simp[he,c1,c2]:p2=false)
     clear hp' he c1 c2
     generalize bL S 0=c at *
     go_wp2
     go_meet
     exact⟨by rw[HP.out],rfl⟩
  ·rw[he] at hTe
   have HP:Hid (p2=false):=(by rw[Hp2.out];simp[he]:p2=false)
   go_wp2
   go_meet
   exact⟨by rw[HP.out],rfl⟩
 case rest =>
 obtain⟨rfl,hw⟩:=hcut
 replace hw:=hw.symm
 subst hw
 clear Hp2 hTe hTg
 subst h2
 have q1:=k1.out w (Below.refl _ _)
 have hcat:(⟨#[45]⟩:ByteArray)++T=⟨(45 :: S).toArray⟩:=by rw[HT.out,show(⟨#[45]⟩:ByteArray)=⟨[45].toArray⟩from rfl,bytes_cat];rfl
 have hcsz:(⟨#[45]⟩:ByteArray).size+T.size≤9223372036854775807:=by show 1+T.size≤_;omega
 rw[←HT.out] at q1
 clear k1
 go_wp2_with fail
 refine q1.mono ?_
 rintro r w1 ⟨rfl,b1⟩
 have B1:Hid (Bw w w1):=b1
 have q2:=k2.out w1 B1.out
 rw[←HT.out] at q2
 clear q1 b1 k2
 go_wp2_with fail
 refine q2.mono ?_
 rintro r w2 ⟨rfl,b2⟩
 have B2:Hid (Bw w w2):=B1.out.trans (b2.mono B1.out.size)
 have q3:=k3.out w2 B2.out
 rw[←HT.out] at q3
 clear q2 b2 B1 k3
 go_wp2_with fail
 refine q3.mono ?_
 rintro r w3 ⟨rfl,b3⟩
 have B3:Hid (Bw w w3):=B2.out.trans (b3.mono B2.out.size)
 have q4:=k4.out w3 B3.out
 clear q3 b3 B2 k4
 go_wp2_with fail
 refine q4.mono ?_
 rintro r w4 ⟨rfl,b4⟩
 have B4:Hid (Bw w w4):=B3.out.trans (b4.mono B3.out.size)
 have qW:=kW.out w4 B4.out
 clear q4 b4 B3 kW hcat hcsz
 rw[hTs] at hTb
 subst hE
 go_wp2_with fail
 refine qW.mono ?_
 rintro r w5 ⟨rfl,b5⟩
 have B5:Hid (Bw w w5):=B4.out.trans (b5.mono B4.out.size)
 clear qW b5
 go_wp2
 go_ret
 exact⟨rfl,B5.out⟩
theorem Dmodes_long (s0 S:List UInt8) (p1 p2:Bool) (w:World) (hL:s0.length≤4611686018427387904) (hp1:p1=(!s0.isEmpty&&(decide (bL s0 0=43)||decide (bL s0 0=45)))) (hS:Hid (S=if p1=true then s0.tail else s0)) (hp2:p2=(!S.isEmpty&&(decide (bL S 0=43)||decide (bL S 0=45))))
  (kW:Hid (∀ W,Bw w W→Calls Tryz.prog 12 #[] W fun r w'=>r=.returned (.bool true)∧Bw W w')) (a b c d:Nat) (E H:Int) (h2:p2=false)
  (k1:Hid (∀ W,Bw w W→Calls Tryz.prog 9 #[.string ⟨(S).toArray⟩,.int .i64 1] W fun r w'=>r=.returned (.tuple #[.float .f64 a,.int .i64 E])∧Bw W w'))
  (k2:Hid (∀ W,Bw w W→Calls Tryz.prog 9 #[.string ⟨(S).toArray⟩,.int .i64 2] W fun r w'=>r=.returned (.tuple #[.float .f64 b,.int .i64 E])∧Bw W w'))
  (k3:Hid (∀ W,Bw w W→Calls Tryz.prog 9 #[.string ⟨(S).toArray⟩,.int .i64 3] W fun r w'=>r=.returned (.tuple #[.float .f64 c,.int .i64 E])∧Bw W w'))
  (k4:Hid (∀ W,Bw w W→Calls Tryz.prog 9 #[.string ⟨(45 :: S).toArray⟩,.int .i64 1] W fun r w'=>r=.returned (.tuple #[.float .f64 d,.int .i64 H])∧Bw W w')) (hE:E=0) (nb:(FloatKind.f64.format.order b b != some Ordering.eq)=false) (hl:1048576≤S.length) :
  Calls Tryz.prog 7 #[.string ⟨s0.toArray⟩] w fun r w'=>r=.returned (.bool true)∧Bw w w':=by
 obtain⟨R,hR⟩:∃ R:ByteArray,R=⟨s0.toArray⟩:=⟨_,rfl⟩
 have hRe:R.toList.isEmpty=s0.isEmpty:=by rw[hR];exact bytes_empty _
 have hRs:R.size=s0.length:=by rw[hR];rfl
 have hRg:∀ h,(R[0]'h).toNat=bL s0 0:=by subst hR;exact fun h=>bL_get s0 0 h
 obtain⟨T,hT0⟩:∃ T:ByteArray,T=⟨S.toArray⟩:=⟨_,rfl⟩
 have hTe:T.toList.isEmpty=S.isEmpty:=by rw[hT0];exact bytes_empty _
 have hTs:T.size=S.length:=by rw[hT0];rfl
 have hTg:∀ h,(T[0]'h).toNat=bL S 0:=by subst hT0;exact fun h=>bL_get S 0 h
 have HT:Hid (T=⟨S.toArray⟩):=hT0
 have Hp1:Hid (p1=(!s0.isEmpty&&(decide (bL s0 0=43)||decide (bL s0 0=45)))):=hp1
 have Hp2:Hid (p2=(!S.isEmpty&&(decide (bL S 0=43)||decide (bL S 0=45)))):=hp2
 have hx:p1=true→R.extract 1 R.size=T:=fun h=>by
  rw[hRs,hR,hT0,hS.out,if_pos h]
  have:=ext_drop s0 1
  rw[List.drop_one] at this
  exact this
 have hx2:p1=false→R=T:=fun h=>by rw[hR,hT0,hS.out,if_neg (by rw[h];decide)]
 have hl1:p1=true→(1:Int)≤(R.size:Int):=fun h=>by
  rw[Hp1.out,Bool.and_eq_true] at h
  have:0<s0.length:=by cases s0 with|nil=>simp at h|cons a t=>simp
  omega
 have HX:Hid ((p1=true→R.extract 1 R.size=T∧(1:Int)≤(R.size:Int))∧(p1=false→R=T)):=⟨fun h=>⟨hx h,hl1 h⟩,hx2⟩
 have hTb:T.size≤4611686018427387904:=by
  rw[hTs,hS.out]
  split
  ·rw[List.length_tail];omega
  ·omega
 rw[←hR]
 clear hx hx2 hl1 hp1 hp2 hR hT0 hS
 go_enter Tryz.func7,Tryz.ntmps7
 go_upto_region 1 with fail
 go_cut [23] from 12 to 22 (fun v wx=>v=.bool p1∧wx=w)
 case first =>
  cases he:s0.isEmpty
  ·rw[he] at hRe
   have hs0:(0:Int)<(R.size:Int):=by
    have:0<s0.length:=by cases s0 with|nil=>simp at he|cons a t=>simp
    omega
   have hp':=Hp1.out
   by_cases c1:bL s0 0=43
   ·have e1:((bL s0 0:Int)==43)=true:=by rw[c1];rfl
    have HP:Hid (p1=true):=(by rw[hp'];simp[he,c1]:p1=true)
    clear hp' he c1
    generalize bL s0 0=c at *
    go_wp2
    go_meet
    exact⟨by rw[HP.out],rfl⟩
   ·have e1:((bL s0 0:Int)==43)=false:=by rw[beq_eq_false_iff_ne];omega
    by_cases c2:bL s0 0=45
    ·have e2:((bL s0 0:Int)==45)=true:=by rw[c2];rfl
     have HP:Hid (p1=true):=(by rw[hp'];simp[he,c2]:p1=true)
     clear hp' he c1 c2
     generalize bL s0 0=c at *
     go_wp2
     go_meet
     exact⟨by rw[HP.out],rfl⟩
    ·have e2:((bL s0 0:Int)==45)=false:=by rw[beq_eq_false_iff_ne];omega
     have HP:Hid (p1=false):=(by rw[hp'];simp[he,c1,c2]:p1=false)
     clear hp' he c1 c2
     generalize bL s0 0=c at *
     go_wp2
     go_meet
     exact⟨by rw[HP.out],rfl⟩
  ·rw[he] at hRe
   have HP:Hid (p1=false):=(by rw[Hp1.out];simp[he]:p1=false)
   go_wp2
   go_meet
   exact⟨by rw[HP.out],rfl⟩
 case rest =>
 obtain⟨rfl,hw⟩:=hcut
 replace hw:=hw.symm
 subst hw
 go_upto_if 23 with fail
 go_cut [0] from 24 to 25 (fun v wx=>v=.string T∧wx=w)
 case first =>
  cases p1
  ·obtain rfl:=HX.out.2 rfl
   go_wp2
   go_meet
   exact⟨rfl,rfl⟩
  ·obtain⟨e1,e2⟩:=HX.out.1 rfl
   rw[hRs] at e1 e2
   go_wp2
   go_meet
   exact⟨rfl,rfl⟩
 case rest =>
 obtain⟨rfl,hw⟩:=hcut
 replace hw:=hw.symm
 subst hw
 clear HX Hp1 hRe hRs hRg
 go_upto_region 3 with fail
 go_cut [37] from 26 to 36 (fun v wx=>v=.bool p2∧wx=w)
 case first =>
  cases he:S.isEmpty
  ·rw[he] at hTe
   have hs0:(0:Int)<(T.size:Int):=by
    have:0<S.length:=by cases S with|nil=>simp at he|cons a t=>simp
    omega
   have hp':=Hp2.out
   by_cases c1:bL S 0=43
   ·have e1:((bL S 0:Int)==43)=true:=by rw[c1];rfl
    have HP:Hid (p2=true):=(by rw[hp'];simp[he,c1]:p2=true)
    clear hp' he c1
    generalize bL S 0=c at *
    go_wp2
    go_meet
    exact⟨by rw[HP.out],rfl⟩
   ·have e1:((bL S 0:Int)==43)=false:=by rw[beq_eq_false_iff_ne];omega
    by_cases c2:bL S 0=45
    ·have e2:((bL S 0:Int)==45)=true:=by rw[c2];rfl
     have HP:Hid (p2=true):=(by rw[hp'];simp[he,c2]:p2=true)
     clear hp' he c1 c2
     generalize bL S 0=c at *
     go_wp2
     go_meet
     exact⟨by rw[HP.out],rfl⟩
    ·have e2:((bL S 0:Int)==45)=false:=by rw[beq_eq_false_iff_ne];omega
     have HP:Hid (p2=false):=(by rw[hp'];simp[he,c1,c2]:p2=false)
     clear hp' he c1 c2
     generalize bL S 0=c at *
     go_wp2
     go_meet
     exact⟨by rw[HP.out],rfl⟩
  ·rw[he] at hTe
   have HP:Hid (p2=false):=(by rw[Hp2.out];simp[he]:p2=false)
   go_wp2
   go_meet
   exact⟨by rw[HP.out],rfl⟩
 case rest =>
 obtain⟨rfl,hw⟩:=hcut
 replace hw:=hw.symm
 subst hw
 clear Hp2 hTe hTg
 subst h2
 have q1:=k1.out w (Below.refl _ _)
 have hcat:(⟨#[45]⟩:ByteArray)++T=⟨(45 :: S).toArray⟩:=by rw[HT.out,show(⟨#[45]⟩:ByteArray)=⟨[45].toArray⟩from rfl,bytes_cat];rfl
 have hcsz:(⟨#[45]⟩:ByteArray).size+T.size≤9223372036854775807:=by show 1+T.size≤_;omega
 rw[←HT.out] at q1
 clear k1
 go_wp2_with fail
 refine q1.mono ?_
 rintro r w1 ⟨rfl,b1⟩
 have B1:Hid (Bw w w1):=b1
 have q2:=k2.out w1 B1.out
 rw[←HT.out] at q2
 clear q1 b1 k2
 go_wp2_with fail
 refine q2.mono ?_
 rintro r w2 ⟨rfl,b2⟩
 have B2:Hid (Bw w w2):=B1.out.trans (b2.mono B1.out.size)
 have q3:=k3.out w2 B2.out
 rw[←HT.out] at q3
 clear q2 b2 B1 k3
 go_wp2_with fail
 refine q3.mono ?_
 rintro r w3 ⟨rfl,b3⟩
 have B3:Hid (Bw w w3):=B2.out.trans (b3.mono B2.out.size)
 have q4:=k4.out w3 B3.out
 clear q3 b3 B2 k4
 go_wp2_with fail
 refine q4.mono ?_
 rintro r w4 ⟨rfl,b4⟩
 have B4:Hid (Bw w w4):=B3.out.trans (b4.mono B3.out.size)
 have qW:=kW.out w4 B4.out
 clear q4 b4 B3 kW hcat hcsz
 rw[hTs] at hTb
 subst hE
 have e3:(1048576:Int)≤(S.length:Int):=by omega
 clear hl
 go_wp2_with fail
 refine qW.mono ?_
 rintro r w5 ⟨rfl,b5⟩
 have B5:Hid (Bw w w5):=B4.out.trans (b5.mono B4.out.size)
 clear qW b5
 go_wp2
 go_ret
 exact⟨rfl,B5.out⟩
end Go.Proofs.YtijolhhlkkpdkaaGreatDoor
