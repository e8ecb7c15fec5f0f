/- Own work: contracts of the program's functions, part 19: DD8 DD9 DDA DDB DD3 DDC DDD DDE DDF DDG DDH DDI DRA DRB DRC DRD DRE DRX DRF. -/
import Derived.Test.YtkcmhaknalomjaaGreatDoorA18
import Derived.Test.YtkcmhaknalomjaaGreatDoorA12
import Derived.Test.YtkcmhaknalomjaaGreatDoorA13
import Derived.Test.YtkcmhaknalomjaaGreatDoorA14
import Derived.Test.YtkcmhaknalomjaaGreatDoorA11

set_option maxHeartbeats 16000000
set_option maxRecDepth 200000
set_option linter.unusedVariables false
set_option linter.unusedSimpArgs false
namespace Go.Proofs.YtkcmhaknalomjaaGreatDoor
open Go Go.RowKit Go.Fl64
def yY1 (a:Nat):Nat:=if mag a=0 then 1 else if neg a then a - 1 else a+1
theorem yT6 (a:Nat) (w:World) (hn:(FloatKind.f64.format.order a a != some Ordering.eq)=false) (h2:((a:Int)==9218868437227405312)=false) (h3:(FloatKind.f64.format.order a 0==some Ordering.eq)=true) :
  Calls Tryz.prog 242 #[.float .f64 a] w fun r w'=>r=.returned (.float .f64 1)∧w'=w:=by
 have kb:=Ie.run_bits;have kf:=Ie.run_frombits
 go_enter Tryz.func242,Tryz.ntmps242
 go_wp2
 go_ret;exact⟨rfl,rfl⟩
theorem yT5 (a:Nat) (r:Int) (w:World) (hn:(FloatKind.f64.format.order a a != some Ordering.eq)=false) (h2:((a:Int)==9218868437227405312)=false) (h3:(FloatKind.f64.format.order a 0==some Ordering.eq)=false) (h4:(bits .and .u64 (a:Int) 9223372036854775808 != 0)=true) (h5:IntKind.u64.wrap ((a:Int) - 1)=r) :
  Calls Tryz.prog 242 #[.float .f64 a] w fun e w'=>e=.returned (.float .f64 r.toNat)∧w'=w:=by
 have kb:=Ie.run_bits;have kf:=Ie.run_frombits
 go_enter Tryz.func242,Tryz.ntmps242
 go_wp2
 go_ret;exact⟨rfl,rfl⟩
theorem yT4 (a:Nat) (r:Int) (w:World) (hn:(FloatKind.f64.format.order a a != some Ordering.eq)=false) (h2:((a:Int)==9218868437227405312)=false) (h3:(FloatKind.f64.format.order a 0==some Ordering.eq)=false) (h4:(bits .and .u64 (a:Int) 9223372036854775808 != 0)=false) (h5:IntKind.u64.wrap ((a:Int)+1)=r) :
  Calls Tryz.prog 242 #[.float .f64 a] w fun e w'=>e=.returned (.float .f64 r.toNat)∧w'=w:=by
 have kb:=Ie.run_bits;have kf:=Ie.run_frombits
 go_enter Tryz.func242,Tryz.ntmps242
 go_wp2
 go_ret;exact⟨rfl,rfl⟩
theorem yY0 (a:Nat) (ha:a<18446744073709551616) (hn:mag a<9218868437227405312) (w:World) :
  Calls Tryz.prog 242 #[.float .f64 a] w fun r w'=>r=.returned (.float .f64 (yY1 a))∧w'=w:=by
 have n1:qV a=false:=xB9 (by omega)
 have q1:=qE4 a ha;rw[n1] at q1;have q2:((a:Int)==9218868437227405312)=false:=by
  rw[xM8];intro h;have:a=9218868437227405312:=by omega
  rw[this] at hn;revert hn;decide
 have q3:=zP8 ha;have q3':(FloatKind.f64.format.order a 0==some Ordering.eq)=decide (mag a=0):=by
  have:(FloatKind.f64.format.order a 0 != some Ordering.eq) = !(FloatKind.f64.format.order a 0==some Ordering.eq):=rfl
  rw[this] at q3;revert q3
  cases (FloatKind.f64.format.order a 0==some Ordering.eq) <;> cases decide (mag a=0) <;> simp
 have q4:(bits .and .u64 (a:Int) 9223372036854775808 != 0)=neg a:=by
  rw[zF5 a ha];cases neg a <;> decide
 unfold yY1;by_cases h0:mag a=0
 ·rw[if_pos h0];rw[xN h0] at q3';exact yT6 a w q1 q2 q3'
 ·rw[if_neg h0];rw[xB9 h0] at q3';cases hs:neg a
  ·rw[hs] at q4;have h9:a<9223372036854775808:=by unfold neg at hs;simpa using hs
   rw[if_neg (by decide)]
   exact yT4 a ((a+1:Nat):Int) w q1 q2 q3' q4 (by rw[xM2];omega)
  ·rw[hs] at q4;have h9:9223372036854775808≤a:=by unfold neg at hs;simpa using hs
   rw[if_pos rfl];exact yT5 a ((a - 1:Nat):Int) w q1 q2 q3' q4 (by rw[xM2];omega)
theorem yS9 {t:Bool×Nat×Int} {X:Value} {w:World} (ok:Ok t) (h:PN w X t):Calls Tryz.prog 125 #[X] w fun r w'=>r=.returned (.int .i64 ((bl t.2.1:Nat)+t.2.2))∧Bw w w':=by
 obtain⟨pa,pc,rfl,i1⟩:=h;have f:=ok.facts;refine xX5 t.1 pa _ pc t.2.2 _ w (fun W g hW hg=>?_) (fun W' hW'=>c75 (i1.later hW') (by omega) (by omega) (by omega))
 have:=qC2 hg (i1.later hW) (by omega)
 have ok':okN t.1 (dlen t.2.1) t.2.1 t.2.2=true:=ok;rw[ok'] at this;exact this
theorem yS8 {A p b:Nat} (h:A<2^b) (h0:A≠0) (hb:b≤60000) (hp:p≤60000) {W:World} {X:Value} (hX:PN W X (un (A:Int) p)) :
  Calls Tryz.prog 125 #[X] W fun r w'=>r=.returned (.int .i64 ((bl A:Nat) - (p:Int)))∧Bw W w':=by
 have k:=yS9 (qV6 (nabs h) hb hp) hX;have sp:=(qX1 _ _ (xB6 _) h0).1;have e1:(un (A:Int) p).2.1=A / 2^tz A:=by unfold un cn;rw[xM7,if_neg h0]
 have e2:(un (A:Int) p).2.2=(tz A:Int) - p:=by unfold un cn;rw[xM7,if_neg h0];show -(p:Int)+(tz A:Int)=_;omega
 have hx:A / 2^tz A≠0:=by intro h9;rw[h9,Nat.mul_zero] at sp;omega
 have e3:bl A=bl (A / 2^tz A)+tz A:=by
  have:=zJ4 (x:=A / 2^tz A) (k:=tz A) hx
  rw[xP,sp] at this;exact this
 rw[e1,e2] at k;rw[e3];rw[show((bl (A / 2^tz A)+tz A:Nat):Int) - (p:Int)=((bl (A / 2^tz A):Nat):Int)+((tz A:Int) - p) by push_cast;omega]
 exact k
theorem zB6 {R:Nat} (h:R<9218868437227405312) (W:World):(Op.unary UnOp.neg (Value.float .f64 R)).run Tryz.prog W=.ok (.float .f64 (R+9223372036854775808)) W:=by
 have hn:Op.negFloat .f64 R=R+9223372036854775808:=by rw[Fl64.negF R (by omega)];unfold Fl64.ngt Fl64.neg;simp;omega
 rw[←hn];rfl
theorem zB5 {R:Nat} (h:R<9218868437227405312) (W:World):(Op.unary UnOp.neg (Value.float .f64 (R+9223372036854775808))).run Tryz.prog W=.ok (.float .f64 R) W:=by
 have hn:Op.negFloat .f64 (R+9223372036854775808)=R:=by rw[Fl64.negF _ (by omega)];unfold Fl64.ngt Fl64.neg;simp
 have h2:(Op.unary UnOp.neg (Value.float .f64 (R+9223372036854775808))).run Tryz.prog W=.ok (.float .f64 (Op.negFloat .f64 (R+9223372036854775808))) W:=rfl;rw[h2,hn]
theorem Dprev {a:Nat} (h0:0<a) (h1:a<9218868437227405312) (w:World):Calls Tryz.prog 207 #[.float .f64 a] w fun r w'=>r=.returned (.float .f64 (a - 1))∧w'=w:=by
 have hm:mag (a+9223372036854775808)=a:=by unfold mag;omega
 have k:=yY0 (a+9223372036854775808) (by omega) (by rw[hm];exact h1)
 have e:yY1 (a+9223372036854775808)=a - 1+9223372036854775808:=by
  unfold yY1;rw[hm,if_neg (by omega),if_pos (by unfold neg;exact xN (by omega))]
  omega
 rw[e] at k;have n1:=zB6 h1;have n2:=zB5 (R:=a - 1) (by omega)
 generalize a - 1=c at *;clear e hm h0 h1
 go_enter Tryz.func207,Tryz.ntmps207
 go_wp2_with (first|(go_at_call 242;refine(k _).mono ?_;rintro r w' ⟨rfl,hw⟩;replace hw:=hw.symm;subst hw))
 go_ret;exact⟨rfl,rfl⟩
def utF (a:Nat):Nat:=Ie.mk false 1 (Ie.lp a) 2 9221120237041090561
theorem Dunit {a:Nat} (ha:a<18446744073709551616) (hf:mag a<9218868437227405312) (w:World):Calls Tryz.prog 208 #[.float .f64 a] w fun r w'=>r=.returned (.float .f64 (utF a))∧w'=w:=by
 obtain⟨c1,c2,-⟩:=qL5 hf;have kC:=fun V=>Ie.c9 a ha V;have kL:=fun V=>Ie.c47 a ha V;have kM:=fun V=>Ie.c24 false 1 (Ie.lp a) 2 (by omega) V
 have hc1:(cls a==1)=false:=by rw[xM8];exact c1
 have hc2:(cls a==2)=false:=by rw[xM8];exact c2
 unfold utF;generalize cls a=c at *;generalize Ie.lp a=L at *;generalize Ie.mk false 1 L 2 9221120237041090561=F at *;clear c1 c2 ha hf
 go_enter Tryz.func208,Tryz.ntmps208
 go_wp2_with (first|(go_at_call 87;refine(kC _).mono ?_;rintro r w' ⟨rfl,hw⟩;replace hw:=hw.symm;subst hw)|(go_at_call 116;refine(kL _).mono ?_;rintro r w' ⟨rfl,hw⟩;replace hw:=hw.symm;subst hw)|(go_at_call 77;refine(kM _).mono ?_;rintro r w' ⟨rfl,hw⟩;replace hw:=hw.symm;subst hw))
 go_ret;exact⟨rfl,rfl⟩
def woX0 (A:Nat):Int:=((bl A:Nat) - (kP:Int) - 1)*1262611 / 4194304
def woX (A:Nat):Int:=if 0<unF (A:Int) (tnO (-woX0 A - 1)) (tnU (-woX0 A - 1))then woX0 A+1 else woX0 A
theorem xH3 {A:Nat} (h:A<2^bU) (h0:A≠0):1≤bl A∧bl A≤2200:=by
 refine⟨?_,(qJ2 A bU).2 h⟩
 rcases Nat.lt_or_ge 0 (bl A)with h1|h1
 ·exact h1
 ·have:=(qJ2 A 0).1 h1
  rw[xP2] at this;omega
theorem yH {A:Nat} (h:A<2^bU) (h0:A≠0) : -400≤woX0 A∧woX0 A≤400:=by
 have hb:=xH3 h h0;have hk:=qE7;unfold woX0;generalize kP=x at *;omega
theorem woX_b {A:Nat} (h:A<2^bU) (h0:A≠0) : -400≤woX A∧woX A≤401:=by
 have:=yH h h0
 unfold woX;split <;> omega
theorem xF2 {A:Nat} {X:Value} {w:World} (hT:Tab32 w) (h:A<2^bU) (h0:A≠0) (hX:PN w X (un (A:Int) kP)) :
  Calls Tryz.prog 66 #[X] w fun r w'=>r=.returned (.int .i64 (woX A))∧Bw w w':=by
 obtain⟨s3,ao3,n3,cp3,e3,rfl⟩:=hX.shape;have hb:=xH3 h h0;have hw:=yH h h0;have hk:=qE7;obtain⟨t1,t2,t3,t4⟩:=zS (pl := -woX0 A - 1) (by omega) (by omega)
 have hF:=zV9 (Z:=(A:Int)) (k:=bU) (l:=dB) (nabs h) t1 t3;have k:=yV6 s3 ao3 n3 cp3 e3 ((bl A:Nat) - (kP:Int)) (woX0 A) (if unF (A:Int) (tnO (-woX0 A - 1)) (tnU (-woX0 A - 1))=0 then 0 else if unF (A:Int) (tnO (-woX0 A - 1)) (tnU (-woX0 A - 1))<0 then -1 else 1) (un ((tnO (-woX0 A - 1):Nat):Int) 0) (un ((tnU (-woX0 A - 1):Nat):Int) 0) (un (A:Int) kP) (un (unF (A:Int) (tnO (-woX0 A - 1)) (tnU (-woX0 A - 1))) 0) (unX (A:Int) (tnO (-woX0 A - 1)) (tnU (-woX0 A - 1))) w hX (by omega) (by omega) rfl
  (fun W hW hX=>yS8 (b:=bU) h h0 (by rw[qN4];omega) (by omega) hX)
  (fun W hW=>zF6 (hT.later hW) (by omega) (by omega) (fun n hn=>klen hn))
  (fun s1 ao1 n1 cp1 e1 s2 ao2 n2 cp2 e2 s3 ao3 n3 cp3 e3 W hW q1 q2 q3=>zF9 (Z:=(A:Int)) (O:=tnO (-woX0 A - 1)) (U:=tnU (-woX0 A - 1)) (p:=kP) (k:=bU) (l:=dB) (hT.later hW) ⟨_,_,_,_,_,_,_,_,_,_,rfl,q1,q2⟩ q3 (nabs h) t1 t2 t3 dk1)
  (fun W X hW hX=>qT3 hF (xD2 dk3) (by omega) hX)
  (by show -1≤_∧_≤1;split <;> (try split) <;> omega)
 have e:(if 0<(if unF (A:Int) (tnO (-woX0 A - 1)) (tnU (-woX0 A - 1))=0 then(0:Int)else if unF (A:Int) (tnO (-woX0 A - 1)) (tnU (-woX0 A - 1))<0 then -1 else 1)then woX0 A+1 else woX0 A)=woX A:=by
  unfold woX;generalize unF (A:Int) (tnO (-woX0 A - 1)) (tnU (-woX0 A - 1))=u;by_cases c1:u=0
  ·rw[if_pos c1,c1]
  ·rw[if_neg c1];by_cases c2:u<0
   ·rw[if_pos c2,if_neg (by decide),if_neg (by omega)]
   ·rw[if_neg c2,if_pos (by decide),if_pos (by omega)]
 rw[e] at k;exact k
def kQ:Nat:=1075
theorem xY8:(kP:Int) - (-1)=kQ:=rfl
theorem kQ_n:kQ=kP+1:=rfl
def shX (a:Nat):Int:=woX (fU a)
def shO (a:Nat):Nat:=tnO (16 - shX a)
def shU (a:Nat):Nat:=tnU (16 - shX a)
def flQ (Z:Int) (a:Nat):Int:=Z*(shO a:Int) / ((shU a*2^kQ:Nat):Int)
def exq (Z:Int) (a:Nat):Bool:=decide (Z*(shO a:Int) % ((shU a*2^kQ:Nat):Int)=0)
def nrF (Z:Int):Nat:=tfF (un Z kQ).1 true (un Z kQ).2.1 (un Z kQ).2.2 2
def isR (Z:Int) (a:Nat):Bool:=(FloatKind.f64.format.order (nrF Z) a==some Ordering.eq)
def loZ (a:Nat):Int:=sZ (a - 1)+sZ a
def hiZ (a:Nat):Int:=sZ a*2+sZ (utF a)
def shN (a:Nat):Nat:=(flQ (loZ a) a).toNat
def shM (a:Nat):Nat:=(flQ (hiZ a) a).toNat
def shL (a:Nat):Nat:=if exq (loZ a) a&&isR (loZ a) a then shN a else shN a+1
def shH (a:Nat):Nat:=if exq (hiZ a) a && !isR (hiZ a) a then shM a - 1 else shM a
def shTz (a:Nat):Int:=sZ a*(shO a:Int) / ((shU a*2^kP1:Nat):Int)
def shT (a:Nat):Nat:=(shTz a).toNat
def shI (a:Nat):Bool:=decide (sZ a*(shO a:Int) % ((shU a*2^kP1:Nat):Int)=0)
structure ShOk (a:Nat):Prop where
 pos:0<a
 fin:a<9218868437227405312
 ut:utF a<9218868437227405312
 lo:0≤flQ (loZ a) a
 lo2:shN a<2305843009213693952
 hi:0<flQ (hiZ a) a
 hi2:shM a<2305843009213693952
 tw:0≤shTz a
 tw2:shT a<2305843009213693952
theorem qU8 {a:Nat} (h:a<9218868437227405312):mag a<9218868437227405312:=by unfold mag;omega
theorem ShOk.x {a:Nat} (h:ShOk a) : -400≤shX a∧shX a≤401:=by
 refine woX_b (yL6 a) ?_;intro h0;have h1:mag a=a:=by unfold mag;have:=h.fin;omega
 have h2:=Ie.mant_ne (a:=a) (by rw[h1];have:=h.pos;omega)
 unfold fU at h0;rcases Nat.mul_eq_zero.1 h0 with h3|h3
 ·exact h2 h3
 ·exact absurd h3 (Nat.ne_of_gt (xN0 _))
theorem zL5 (a:Nat):(loZ a).natAbs<2^(bU+1+1):=by
 have h1:=qB4 (a - 1);have h2:=qB4 a;unfold loZ;exact qF7 1 (zJ8 h1 h2)
theorem yN1 (a:Nat):(hiZ a).natAbs<2^(bU+1+1):=by
 have h1:=qB4 a;have h2:=qB4 (utF a);unfold hiZ;have h3:(sZ a*2).natAbs<2^(bU+1):=by rw[xP0];omega
 exact zJ8 h3 (qF7 1 h2)
theorem dk7:bU+1+1+dB+kQ≤60000:=by have h1:=qE7;have h2:=qN4;have h3:=qL4;rw[kQ_n];generalize kP=x at *; generalize bU=y at *; generalize dB=z at *; omega
theorem dk8:bU+1+1≤60000:=by have h2:=qN4;generalize bU=y at *; omega
theorem dk9:kQ≤60000∧kP≤60000∧kP1≤60000:=by decide
theorem dkA:bU+dB+kP1≤60000:=by have h1:kP1=1073:=rfl;have h2:=qN4;have h3:=qL4;generalize kP1=x at *; generalize bU=y at *; generalize dB=z at *; omega
theorem zZ3 {Z:Int} {a:Nat} {X:Value} {w:World} (hT:Tab32 w) (hZ:Z.natAbs<2^(bU+1+1)) (hX:PN w X (un Z kQ)) :
  Calls Tryz.prog 209 #[X,.float .f64 a] w fun r w'=>r=.returned (.bool (isR Z a))∧Bw w w':=by
 obtain⟨s3,ao3,n3,cp3,e3,rfl⟩:=hX.shape;exact zV1 s3 ao3 n3 cp3 e3 (un Z kQ) a (nrF Z) (isR Z a) 0 w hX (fun W hW hX=>xX0 (hT.later hW) (qV6 hZ dk8 dk9.1) hX (by omega)) rfl
theorem yE5 {a:Nat} {S:Value} {w:World} (hT:Tab32 w) (hI:Ie.Tab w) (ok:ShOk a) (hS:Fv w S (un ((shO a:Nat):Int) 0) (un ((shU a:Nat):Int) 0)) :
  Calls Tryz.prog 152 #[.float .f64 a,S] w fun r w'=>r=.returned (.tuple #[.int .u64 (shL a:Nat),.int .u64 (shH a:Nat)])∧Bw w w':=by
 obtain⟨s1,ao1,n1,cp1,e1,s2,ao2,n2,cp2,e2,rfl,p1,p2⟩:=hS;have hx:=ok.x;have hfin:=ok.fin;have hpos:=ok.pos;obtain⟨t1,t2,t3,t4⟩:=zS (pl:=16 - shX a) (by omega) (by omega)
 have ha:a<18446744073709551616:=by omega
 have hut:=ok.ut;have fl:∀ (Z:Int),Z.natAbs<2^(bU+1+1)→∀ W X,Bw w W→PN W (.agg #[.bool s1,.slice ao1 n1 cp1,.int .i64 e1]) (un ((shO a:Nat):Int) 0)→PN W (.agg #[.bool s2,.slice ao2 n2 cp2,.int .i64 e2]) (un ((shU a:Nat):Int) 0)→PN W X (un Z kQ)→Calls Tryz.prog 105 #[.agg #[.bool s1,.slice ao1 n1 cp1,.int .i64 e1,.bool s2,.slice ao2 n2 cp2,.int .i64 e2],X] W fun r w'=>zZ1 W (un (flQ Z a) 0) (exq Z a) r w':=by
  intro Z hZ W X hW q1 q2 hX;exact zF9 (Z:=Z) (O:=shO a) (U:=shU a) (p:=kQ) (k:=bU+1+1) (l:=dB) (hT.later hW) ⟨_,_,_,_,_,_,_,_,_,_,rfl,q1,q2⟩ hX hZ t1 t2 t3 dk7
 have wd:∀ (Z:Int),0≤flQ Z a→(flQ Z a).toNat<2305843009213693952→∀ W X,PN W X (un (flQ Z a) 0)→Calls Tryz.prog 102 #[X] W fun r w'=>r=.returned (.int .u64 ((flQ Z a).toNat:Nat))∧Bw W w':=by
  intro Z h1 h2 W X hX;rw[show flQ Z a=(((flQ Z a).toNat:Nat):Int) by omega] at hX
  exact yV8 (by omega) hX
 refine zO8 a (a - 1) (utF a) s1 ao1 n1 cp1 e1 s2 ao2 n2 cp2 e2 _ _ (un (sZ a) kP) (un (sZ (a - 1)) kP) (un (loZ a) kP) (un (loZ a) kQ) (un (sZ (utF a)) kP) (un (sZ (utF a)) kQ) (un (hiZ a) kQ) (un (flQ (loZ a) a) 0) (un (flQ (hiZ a) a) 0) (exq (loZ a) a) (exq (hiZ a) a) (isR (loZ a) a) (isR (hiZ a) a) (shN a) (shM a) (shL a) (shH a) w rfl rfl p1 p2 (by have:=ok.lo2;omega) (by have:=ok.hi2;omega) (by show 0<shM a;have:=ok.hi;unfold shM;omega) ?_ ?_ ?_ ?_ ?_ ?_ ?_ ?_ ?_ (fl _ (zL5 a)) ?_ ?_ (fl _ (yN1 a)) ?_ ?_
 ·intro W hW;exact qC8 (hT.later hW) (Tab.later hI hW) ha (qU8 hfin)
 ·intro W;refine(Dprev hpos hfin W).mono ?_
  rintro r w' ⟨rfl,rfl⟩;exact⟨rfl,xB7 _ _⟩
 ·intro W hW;exact qC8 (hT.later hW) (Tab.later hI hW) (by omega) (qU8 (by omega))
 ·intro W X Y hW hX hY;exact qF2 (qT6 (p:=kP) (k:=bU) (qB4 _) (qB4 _) (by rw[qN4];omega) dk9.2.1) (hT.later hW) hX hY
 ·intro W X hW hX;exact qB3 (b:=bU+1+1) (zL5 a) dk8 dk9.2.1 dk9.1 xY8 hX
 ·intro W;refine(Dunit ha (qU8 hfin) W).mono ?_
  rintro r w' ⟨rfl,rfl⟩;exact⟨rfl,xB7 _ _⟩
 ·intro W hW;exact qC8 (hT.later hW) (Tab.later hI hW) (by omega) (qU8 hut)
 ·intro W X hW hX;exact qB3 (b:=bU) (qB4 _) (by rw[qN4];omega) dk9.2.1 dk9.1 xY8 hX
 ·intro W X Y hW hX hY;have e:un (sZ a) kP=un (sZ a*2) kQ:=qV5 (sZ a) kP 1;rw[e] at hX;exact qF2 (qT6 (p:=kQ) (k:=bU+1) (by have:=qB4 a;rw[xP0];omega) (qF7 1 (qB4 _)) (by rw[qN4];omega) dk9.1) (hT.later hW) hX hY
 ·intro W X hW hX;exact wd _ ok.lo ok.lo2 W X hX
 ·intro _ W X hW hX;exact zZ3 (hT.later hW) (zL5 a) hX
 ·intro W X hW hX;exact wd _ (Int.le_of_lt ok.hi) ok.hi2 W X hX
 ·intro _ W X hW hX;exact zZ3 (hT.later hW) (yN1 a) hX
def fwS (L H T:Nat):Nat→Nat→Nat
 | 0,j=>j
 | n+1,j=>if 1<fwU j∧fwL T j<L∧H<fwL T j+fwU j then fwS L H T n (j+1)else j
theorem yJ0 (L H T:Nat):∀ n j,n+j=16→(∀ i,i<j→1<fwU i∧fwL T i<L∧H<fwL T i+fwU i) →
  (∀ i,i<fwS L H T n j→1<fwU i∧fwL T i<L∧H<fwL T i+fwU i)∧¬ (1<fwU (fwS L H T n j)∧fwL T (fwS L H T n j)<L∧H<fwL T (fwS L H T n j)+fwU (fwS L H T n j)):=by
 intro n;induction n with
 | zero =>
  intro j hj h;obtain rfl:j=16:=by omega
  exact⟨h,fun g=>absurd g.1 (by show ¬ 1<fwU 16;decide)⟩
 | succ n ih =>
  intro j hj h;unfold fwS;by_cases c:1<fwU j∧fwL T j<L∧H<fwL T j+fwU j
  ·rw[if_pos c];refine ih (j+1) (by omega) (fun i hi=>?_)
   by_cases e:i=j
   ·rw[e];exact c
   ·exact h i (by omega)
  ·rw[if_neg c];exact⟨h,c⟩
def shJ (a:Nat):Nat:=fwS (shL a) (shH a) (shT a) 16 0
def shA (a:Nat):Bool:=decide (fwU (shJ a)<shT a - 2*fwL (shT a) (shJ a))||(decide (shT a - 2*fwL (shT a) (shJ a)=fwU (shJ a))&&(!shI a||decide (fwL (shT a) (shJ a) / fwU (shJ a) % 2=1)))
def shF (a:Nat):Nat:=if fwL (shT a) (shJ a)<shL a∨(shA a=true∧fwL (shT a) (shJ a)+fwU (shJ a)≤shH a)then fwL (shT a) (shJ a)+fwU (shJ a)else fwL (shT a) (shJ a)
theorem zS6 {a:Nat} (ok:ShOk a):shF a<18446744073709551616:=by
 have h1:=xK6 (shT a) (shJ a);have h2:=zW6 (shJ a);have h3:=ok.tw2;unfold shF;split <;> omega
theorem yI9 {a:Nat} (ok:ShOk a):shL a<4611686018427387904∧shH a<4611686018427387904:=by
 have h1:=ok.lo2;have h2:=ok.hi2;unfold shL shH;constructor <;> split <;> omega
theorem yE6 {a:Nat} {X S:Value} {w:World} (hT:Tab32 w) (hI:Ie.Tab w) (ok:ShOk a) (hX:PN w X (un (sZ a) kP)) (hS:Fv w S (un ((shO a:Nat):Int) 0) (un ((shU a:Nat):Int) 0)) :
  Calls Tryz.prog 89 #[.float .f64 a,X,S] w fun r w'=>r=.returned (.int .u64 (shF a:Nat))∧Bw w w':=by
 obtain⟨s1,ao1,n1,cp1,e1,s2,ao2,n2,cp2,e2,rfl,p1,p2⟩:=hS;obtain⟨s3,ao3,n3,cp3,e3,rfl⟩:=hX.shape;have hx:=ok.x;obtain⟨t1,t2,t3,t4⟩:=zS (pl:=16 - shX a) (by omega) (by omega)
 obtain⟨j1,j2⟩:=yJ0 (shL a) (shH a) (shT a) 16 0 rfl (fun i hi=>absurd hi (Nat.not_lt_zero _));obtain⟨l1,l2⟩:=yI9 ok;have htw:=ok.tw;have htw2:=ok.tw2;refine yQ1 a s1 ao1 n1 cp1 e1 s2 ao2 n2 cp2 e2 s3 ao3 n3 cp3 e3 _ _ _ (un (sZ a) kP1) (un (shTz a) 0) (un ((10^16:Nat):Int) 0) (shI a) (shA a) (shL a) (shH a) (shT a) (shJ a) (shF a) w p1 p2 hX l1 l2 (by omega) j1 j2 rfl rfl ?_ ?_ ?_ ?_ ?_ ?_
 ·intro W hW q1 q2;exact yE5 (hT.later hW) (Tab.later hI hW) ok ⟨_,_,_,_,_,_,_,_,_,_,rfl,q1,q2⟩
 ·intro W X hW hX;exact qB3 (b:=bU) (qB4 _) (by rw[qN4];omega) dk9.2.1 dk9.2.2 yN0 hX
 ·intro W X hW q1 q2 hX;exact zF9 (Z:=sZ a) (O:=shO a) (U:=shU a) (p:=kP1) (k:=bU) (l:=dB) (hT.later hW) ⟨_,_,_,_,_,_,_,_,_,_,rfl,q1,q2⟩ hX (qB4 a) t1 t2 t3 dkA
 ·intro W X hW hX;rw[show shTz a=((shT a:Nat):Int) by unfold shT;omega] at hX
  exact yV8 (by omega) hX
 ·intro W hW;exact zF8 (bs:=10) (n:=16) (b:=60) (hT.later hW) (by omega) (by omega) (by omega) (by decide) (by omega) (fun V=>c156 16 (by omega) V)
 ·intro W X hW hX;have e9:fwU 0=10000000000000000:=by decide
  rw[e9];have e8:(10:Nat)^16=10000000000000000:=by decide
  rw[e8] at hX;exact yV8 (N:=10000000000000000) (by decide) hX
def shD (a:Nat):List UInt8:=Lib.trimRightB (dcT (shF a)) 48
def shE (a:Nat):Int:=(dcT (shF a)).length - 1 - (16 - shX a)
theorem zS7 {a:Nat} (ok:ShOk a):(dcT (shF a)).length≤36:=by
 have:=zE2 (N:=shF a) (b:=64) (by rw[show(2:Nat)^64=18446744073709551616 from by decide];exact zS6 ok)
 omega
theorem zD5 (L:List UInt8) (c:UInt8):(Lib.trimRightB L c).length≤L.length:=by
 unfold Lib.trimRightB;rw[List.length_reverse];have:=(List.dropWhile_sublist (fun x=>x==c) (l:=L.reverse)).length_le
 rw[List.length_reverse] at this;exact this
theorem zO7 {a:Nat} {w:World} (hT:Tab32 w) (hI:Ie.Tab w) (ok:ShOk a) :
  Calls Tryz.prog 35 #[.float .f64 a] w fun r w'=>r=.returned (.tuple #[.string ⟨(shD a).toArray⟩,.int .i64 (shE a)])∧Bw w w':=by
 have hx:=ok.x;have hfin:=ok.fin;have hpos:=ok.pos;have hn:neg a=false:=by unfold neg;exact xB9 (by omega)
 have hz:sZ a=((fU a:Nat):Int):=by unfold sZ;rw[hn];rfl
 have hf0:fU a≠0:=by
  intro h0;have h1:mag a=a:=by unfold mag;omega
  have h2:=Ie.mant_ne (a:=a) (by rw[h1];omega)
  unfold fU at h0;rcases Nat.mul_eq_zero.1 h0 with h3|h3
  ·exact h2 h3
  ·exact absurd h3 (Nat.ne_of_gt (xN0 _))
 have hl:=zS7 ok;refine zV a (shX a) (shF a) (un (sZ a) kP) (un ((shO a:Nat):Int) 0) (un ((shU a:Nat):Int) 0) (un ((shF a:Nat):Int) 0) (dcT (shF a)) (shD a) w (by omega) (by omega) ?_ ?_ ?_ ?_ ?_ ?_ ?_
 ·intro W hW;exact qC8 (hT.later hW) (Tab.later hI hW) (by omega) (qU8 hfin)
 ·intro W X hW hX;rw[hz] at hX;exact xF2 (hT.later hW) (yL6 a) hf0 hX
 ·intro W hW;exact zF6 (hT.later hW) (by omega) (by omega) (fun n hn=>klen hn)
 ·intro W X S hW hX hS;exact yE6 (hT.later hW) (Tab.later hI hW) ok hX hS
 ·intro W hW;exact yQ (hT.later hW) (zS6 ok)
 ·intro W X hW hX;exact qS3 (b:=64) (hT.later hW) (by rw[show(2:Nat)^64=18446744073709551616 from by decide];exact zS6 ok) (by omega) hX
 ·intro W hW;have:=Tryz.strings_TrimRight_one ⟨(dcT (shF a)).toArray⟩ 48 (by decide) W (by show(dcT (shF a)).length≤_;omega)
  refine this.mono ?_;rintro r w' ⟨rfl,rfl⟩;exact⟨rfl,xB7 _ _⟩
def shS (a:Nat):List UInt8:=if shE a < -5∨20<shE a then exL (shD a) (Lib.itoa (shE a))else ptL (shD a) ((shD a).length - 1 - shE a)
theorem yW (d t:List UInt8):(exL d t).length≤d.length+t.length+3:=by
 unfold exL;rw[xP5,xP5,List.length_cons,List.length_take];by_cases h:1<d.length
 ·rw[if_pos h,List.length_cons,List.length_drop];omega
 ·rw[if_neg h,List.length_nil];omega
theorem yP8 {a:Nat} (hl2:(shD a).length≤36) (hE : -1000≤shE a∧shE a≤1000):(shS a).length≤20000:=by
 have h1:=Lib.itoa_length_le (shE a) (by omega) (by omega)
 have h3:=yW (shD a) (Lib.itoa (shE a));have h2:=zR9 (d:=shD a) (p:=(shD a).length - 1 - shE a);unfold shS;generalize shD a=D at *;generalize shE a=E at *;generalize Lib.itoa E=I at *;by_cases h:E < -5∨20<E
 ·rw[if_pos h];omega
 ·rw[if_neg h];omega
theorem zZ4 {a:Nat} {w:World} (hT:Tab32 w) (hI:Ie.Tab w) (h10:Tab10 w) (ok:ShOk a) (hd:0<(shD a).length) :
  Calls Tryz.prog 12 #[.float .f64 a] w fun r w'=>r=.returned (.string ⟨(shS a).toArray⟩)∧Bw w w':=by
 have hfin:=ok.fin;have hpos:=ok.pos;have hx:=ok.x;have hl:=zS7 ok;have hl2:(shD a).length≤36:=xN5 (zD5 _ _) hl;have hE : -1000≤shE a∧shE a≤1000:=by unfold shE;omega
 obtain⟨c1,c2,c3⟩:=qL5 (qU8 hfin);have hn:neg a=false:=by unfold neg;exact xB9 (by omega)
 have hlen:(shS a).length≤20000:=yP8 hl2 hE;have e:sgL (neg a) (shS a)=shS a:=by unfold sgL;rw[hn,if_neg (by decide)]
 rw[←e];refine zV3 a _ w ?_;intro W g1 hW b1;have kC:=fun V=>Ie.c9 a (by omega) V
 rw[c3] at kC;refine qD1 a _ _ (neg a) _ _ W c1 c2 hlen kC (qZ5 Tryz.func34 (by kernel_rfl) (by kernel_rfl)) ?_
 refine yQ2 a a (shE a) (shD a) (shS a) g1 W b1 ?_ (by omega) (by omega) (fun V=>?_) ?_ ?_ ?_
 ·have q3:=zP8 (a:=a) (by omega)
  have h1:mag a≠0:=by unfold mag;omega
  rw[xB9 h1] at q3;have e9:(FloatKind.f64.format.order a 0 != some Ordering.eq) = !(FloatKind.f64.format.order a 0==some Ordering.eq):=rfl;rw[e9] at q3;simpa using q3
 ·have h1:mag a=a:=by unfold mag;omega
  have:=c159 a (by omega) V
  rw[h1] at this;exact this
 ·exact zO7 (hT.later hW) (Tab.later hI hW) ok
 ·intro hc V hV;unfold shS;rw[if_pos hc];exact yG2 (shD a) (Lib.itoa (shE a)) (shE a) V hd (by omega) (by have:=Lib.itoa_length_le (shE a) (by omega) (by omega);show(Lib.itoa (shE a)).length≤100;omega) (fun U hU=>xB (by omega) (((h10.later hW).later hV).later hU))
 ·intro hc V hV;unfold shS;rw[if_neg hc];exact qA9 (by omega) (by omega) (knz V)
def rdA (s:List UInt8) (m:Int):Nat×Int :=
 if ¬ (1≤m∧m≤3) then(0,1)else if 1048576<s.length then(0,2)
 else if csD s = [105,110,102] then((if csS s<0 then 18442240474082181120 else 9218868437227405312),0)else if csD s = [110,97,110] then(9221120237041090561,0)
 else if psOk (csD s)=false then(0,3)else if 1100<(psD (csD s)).length then(0,2)
 else(rdFl (decide (csS s<0)) (psb (csD s)) (psD (csD s)) (psH (csD s)) (psX (csD s)) m,0)
theorem xJ0 (E:List UInt8) : -6000≤exX E∧exX E≤6000:=by
 unfold exX;split
 ·have h:=yB1 (csD E) (csD E).length;have hsg:csS E=1∨csS E = -1:=by unfold csS;split <;> simp
  rcases hsg with h1|h1 <;> rw[h1] <;> omega
 ·omega
theorem yB8 (L:List UInt8) : -6000≤psX L∧psX L≤6000:=by
 unfold psX;split
 ·exact xJ0 _
 ·omega
theorem yB6 (L:List UInt8):(psb L=((10:Nat):Int)∧True)∨(psb L=((16:Nat):Int)∧True):=by
 unfold psb;split
 ·exact .inr ⟨rfl,trivial⟩
 ·exact .inl ⟨rfl,trivial⟩
theorem zX5 {L:List UInt8} (h:psOk L=true):qX9 (psD L) (psb L)=true:=by
 unfold psOk at h;rw[xM5] at h;have h2:=h.2;unfold dgO at h2;rw[xM5] at h2;exact h2.1
theorem zT1 (L:List UInt8):psH L≤(psD L).length:=by unfold psH psD;rw[xP5];omega
theorem yG7 {s:List UInt8} {m:Int} {w:World} (hT:Tab32 w) :
  Calls Tryz.prog 8 #[.string ⟨s.toArray⟩,.int .i64 m] w fun r w'=>r=.returned (.tuple #[.float .f64 (rdA s m).1,.int .i64 (rdA s m).2])∧Bw w w':=by
 unfold rdA;have k0:=yQ0 m;by_cases hm:1≤m∧m≤3
 ·rw[if_neg (not_not_intro hm)];rw[xN hm] at k0;by_cases hL:1048576<s.length
  ·rw[if_pos hL];exact zP1 s m w hL k0
  ·rw[if_neg hL];have kC:=fun W=>zB s W (by omega)
   have hdl:=zE8 s;have hsg:csS s=1∨csS s = -1:=by unfold csS;split <;> simp
   by_cases h1:csD s = [105,110,102]
   ·rw[if_pos h1];refine yQ4 s (csD s) m (csS s) _ w (by omega) k0 kC h1 (fun W=>?_)
    rcases hsg with e|e
    ·rw[e,if_neg (by decide)];exact yN9 W
    ·rw[e,if_pos (by decide)];exact zA3 W
   ·rw[if_neg h1];by_cases h2:csD s = [110,97,110]
    ·rw[if_pos h2];exact yQ3 s (csD s) m (csS s) _ w (by omega) k0 kC h2 (fun W=>Ie.c52 W)
    ·rw[if_neg h2];have g1:(csD s == [105,110,102])=false:=by rw[xM8];exact h1
     have g2:(csD s == [110,97,110])=false:=by rw[xM8];exact h2
     by_cases h3:psOk (csD s)=false
     ·rw[if_pos h3];refine zP2 s (csD s) m (csS s) w (by omega) k0 kC g1 g2 (fun W hW=>?_)
      refine(yM5 (csD s) W (by omega)).mono ?_
      rintro r w' ⟨b',D,h,x,rfl,-,hb⟩;exact⟨b',D,h,x,by rw[h3],hb⟩
     ·rw[if_neg h3];have h3':psOk (csD s)=true:=by simpa using h3
      have kS:∀ W,Calls Tryz.prog 27 #[.string ⟨(csD s).toArray⟩] W fun r w'=>r=.returned (.tuple #[.agg #[.int .i64 (psb (csD s)),.string ⟨(psD (csD s)).toArray⟩,.int .i64 (psH (csD s):Int),.int .i64 (psX (csD s))],.bool true])∧Bw W w':=fun W=>by
       refine(yM5 (csD s) W (by omega)).mono ?_
       rintro r w' ⟨b',D,h,x,rfl,hh,hb⟩;obtain⟨e1,e2,e3,e4⟩:=hh h3';exact⟨by rw[e1,e2,e3,e4,h3'],hb⟩
      by_cases h4:1100<(psD (csD s)).length
      ·rw[if_pos h4];exact zZ5 s (csD s) (psD (csD s)) m (csS s) _ _ _ w (by omega) k0 kC g1 g2 (fun W _=>kS W) h4
      ·rw[if_neg h4];refine yG6 s (csD s) (psD (csD s)) m (csS s) _ _ _ w (by omega) k0 kC g1 g2 (fun W _=>kS W) _ (by omega) (fun W hW=>?_)
       have hdg:=zX5 h3';have hx:=yB8 (csD s);have hh:=zT1 (csD s);rcases yB6 (csD s)with ⟨e,-⟩|⟨e,-⟩
       ·rw[e] at hdg ⊢;exact zF7 (hT.later hW) (.inl rfl) hdg (by omega) (by omega) hx hm
       ·rw[e] at hdg ⊢;exact zF7 (hT.later hW) (.inr rfl) hdg (by omega) (by omega) hx hm
 ·rw[if_pos hm];rw[xB9 hm] at k0;exact zP0 s m w k0
theorem wk_1:rdA [48,46,49] 2=(4591870180066957722,0):=by decide +kernel
theorem wk_2:rdA [45,49,101,45,52,48,48] 1=(9223372036854775809,0):=by decide +kernel
theorem wk_3:(rdA [49,120] 2).2=3:=by decide +kernel
theorem wk_4:sgL (neg 4612811918334230528) (ptL (dcT (uN 4612811918334230528 0 2)) 0) = [50]:=by decide +kernel
theorem wk_5:sgL (neg 4602678819172646912) (ptL (dcT (uN 4602678819172646912 (exP 4602678819172646912) 2)) (exP 4602678819172646912)) = [48,46,53]:=by decide +kernel
theorem wk_6:sgL (neg 4591870180066957722) (hxT 4591870180066957722) = [48,120,49,46,57,57,57,57,57,57,57,57,57,57,57,57,97,112,45,52]:=by decide +kernel
theorem wk_7:ShOk 4599075939470750515:=⟨by decide,by decide,by decide +kernel,by decide +kernel,by decide +kernel,by decide +kernel,by decide +kernel,by decide +kernel,by decide +kernel⟩
theorem wk_8:ShOk 4921056587992461136:=⟨by decide,by decide,by decide +kernel,by decide +kernel,by decide +kernel,by decide +kernel,by decide +kernel,by decide +kernel,by decide +kernel⟩
theorem wk_9:shS 4599075939470750515 = [48,46,51]∧0<(shD 4599075939470750515).length:=by decide +kernel
theorem wk_A:shS 4921056587992461136 = [49,101,50,49]∧0<(shD 4921056587992461136).length:=by decide +kernel
theorem xF8 (a b:Nat) (ha:a<18446744073709551616) (hb:b<18446744073709551616) (w:World) :
  Calls Tryz.prog 10 #[.float .f64 a,.float .f64 b] w fun r w'=>r=.returned (.bool (same a b))∧w'=w:=by
 have kb:=Ie.run_bits;have q1:=qE4 a ha;have q2:=qE4 b hb;have e:same a b=(((a:Int)==(b:Int))||(qV a&&qV b)):=rfl;rw[e];clear e;cases ha':qV a
 ·rw[ha'] at q1;clear q2 ha'
  go_enter Tryz.func10,Tryz.ntmps10
  go_wp2
  go_ret;exact⟨by simp,rfl⟩
 ·rw[ha'] at q1;clear ha';cases hb':qV b
  ·rw[hb'] at q2;clear hb'
   go_enter Tryz.func10,Tryz.ntmps10
   go_wp2
   go_ret;exact⟨by simp,rfl⟩
  ·rw[hb'] at q2;clear hb'
   go_enter Tryz.func10,Tryz.ntmps10
   go_wp2
   go_ret;exact⟨by simp,rfl⟩
theorem qW6 (a:Nat):same a a=true:=by unfold same;simp
theorem yV7 (e3:Nat) (w:World)
  (k1:∀ W,Bw w W→Calls Tryz.prog 8 #[.string ⟨#[48,46,49]⟩,.int .i64 2] W fun r w'=>r=.returned (.tuple #[.float .f64 4591870180066957722,.int .i64 0])∧Bw W w')
  (k2:∀ W,Bw w W→Calls Tryz.prog 8 #[.string ⟨#[45,49,101,45,52,48,48]⟩,.int .i64 1] W fun r w'=>r=.returned (.tuple #[.float .f64 9223372036854775809,.int .i64 0])∧Bw W w')
  (k3:∀ W,Bw w W→Calls Tryz.prog 8 #[.string ⟨#[49,120]⟩,.int .i64 2] W fun r w'=>r=.returned (.tuple #[.float .f64 e3,.int .i64 3])∧Bw W w')
  (k4:∀ W,Bw w W→Calls Tryz.prog 18 #[.float .f64 4612811918334230528,.int .i64 0,.int .i64 2] W fun r w'=>r=.returned (.tuple #[.string ⟨#[50]⟩,.int .i64 0])∧Bw W w')
  (k5:∀ W,Bw w W→Calls Tryz.prog 12 #[.float .f64 4599075939470750515] W fun r w'=>r=.returned (.string ⟨#[48,46,51]⟩)∧Bw W w')
  (k6:∀ W,Bw w W→Calls Tryz.prog 12 #[.float .f64 4921056587992461136] W fun r w'=>r=.returned (.string ⟨#[49,101,50,49]⟩)∧Bw W w')
  (k7:∀ W,Bw w W→Calls Tryz.prog 16 #[.float .f64 4591870180066957722] W fun r w'=>r=.returned (.string ⟨#[48,120,49,46,57,57,57,57,57,57,57,57,57,57,57,57,97,112,45,52]⟩)∧Bw W w')
  (k8:∀ W,Bw w W→Calls Tryz.prog 14 #[.float .f64 4602678819172646912] W fun r w'=>r=.returned (.string ⟨#[48,46,53]⟩)∧Bw W w')
  (m1:∀ W,Calls Tryz.prog 10 #[.float .f64 4591870180066957722,.float .f64 4591870180066957722] W fun r w'=>r=.returned (.bool true)∧w'=W)
  (m2:∀ W,Calls Tryz.prog 10 #[.float .f64 9223372036854775809,.float .f64 9223372036854775809] W fun r w'=>r=.returned (.bool true)∧w'=W) :
  Calls Tryz.prog 11 #[] w fun r w'=>r=.returned (.bool true)∧Bw w w':=by
 have q1:=k1 w (xB7 _ _);have K2:Hid _:=k2;have K3:Hid _:=k3;have K4:Hid _:=k4;have K5:Hid _:=k5;have K6:Hid _:=k6;have K7:Hid _:=k7;have K8:Hid _:=k8;clear k1 k2 k3 k4 k5 k6 k7 k8
 go_enter Tryz.func11,Tryz.ntmps11
 go_wp2_with fail;refine q1.mono ?_;rintro r w1 ⟨rfl,b1⟩;have B1:Hid (Bw w w1):=b1;have q2:=K2.out w1 b1;clear q1 b1 K2
 go_wp2_with fail;refine q2.mono ?_;rintro r w2 ⟨rfl,b2⟩;have B2:Hid (Bw w w2):=B1.out.trans (b2.mono B1.out.size);have q3:=K3.out w2 B2.out;clear q2 b2 B1 K3
 go_wp2_with fail;refine q3.mono ?_;rintro r w3 ⟨rfl,b3⟩;have B3:Hid (Bw w w3):=B2.out.trans (b3.mono B2.out.size);have q4:=K4.out w3 B3.out;clear q3 b3 B2 K4
 go_wp2_with fail;refine q4.mono ?_;rintro r w4 ⟨rfl,b4⟩;have B4:Hid (Bw w w4):=B3.out.trans (b4.mono B3.out.size);have q5:=K5.out w4 B4.out;clear q4 b4 B3 K5
 go_wp2_with fail;refine(m1 _).mono ?_
 rintro r w' ⟨rfl,hw⟩;replace hw:=hw.symm;subst hw;clear m1
 go_wp2_with fail;refine(m2 _).mono ?_
 rintro r w' ⟨rfl,hw⟩;replace hw:=hw.symm;subst hw;clear m2
 go_wp2_with fail;refine q5.mono ?_;rintro r w5 ⟨rfl,b5⟩;have B5:Hid (Bw w w5):=B4.out.trans (b5.mono B4.out.size);have q6:=K6.out w5 B5.out;clear q5 b5 B4 K6
 go_wp2_with fail;refine q6.mono ?_;rintro r w6 ⟨rfl,b6⟩;have B6:Hid (Bw w w6):=B5.out.trans (b6.mono B5.out.size);have q7:=K7.out w6 B6.out;clear q6 b6 B5 K7
 go_wp2_with fail;refine q7.mono ?_;rintro r w7 ⟨rfl,b7⟩;have B7:Hid (Bw w w7):=B6.out.trans (b7.mono B6.out.size);have q8:=K8.out w7 B7.out;clear q7 b7 B6 K8
 go_wp2_with fail;refine q8.mono ?_;rintro r w8 ⟨rfl,b8⟩;have B8:Hid (Bw w w8):=B7.out.trans (b8.mono B7.out.size);clear q8 b8 B7
 go_wp2
 go_ret;exact⟨rfl,B8.out⟩
theorem xF3 {w:World} (hT:Tab32 w) (hI:Ie.Tab w) (h10:Tab10 w):Calls Tryz.prog 11 #[] w fun r w'=>r=.returned (.bool true)∧Bw w w':=by
 have like:∀ a,a<18446744073709551616→∀ W,Calls Tryz.prog 10 #[.float .f64 a,.float .f64 a] W fun r w'=>r=.returned (.bool true)∧w'=W:=fun a ha W=>by
  have:=xF8 a a ha ha W
  rw[qW6] at this;exact this
 refine yV7 (rdA [49,120] 2).1 w ?_ ?_ ?_ ?_ ?_ ?_ ?_ ?_ (like _ (by decide)) (like _ (by decide))
 ·intro W hW;have:=yG7 (s := [48,46,49]) (m:=2) (hT.later hW)
  rw[wk_1] at this;exact this
 ·intro W hW;have:=yG7 (s := [45,49,101,45,52,48,48]) (m:=1) (hT.later hW)
  rw[wk_2] at this;exact this
 ·intro W hW;have:=yG7 (s := [49,120]) (m:=2) (hT.later hW)
  rw[wk_3] at this;exact this
 ·intro W hW;have:=xB4 (a:=4612811918334230528) (pl:=0) (m:=2) (hT.later hW) (Tab.later hI hW) (by decide) (by decide) (by decide) (by decide) (by decide)
  rw[wk_4] at this;exact this
 ·intro W hW;have:=zZ4 (hT.later hW) (Tab.later hI hW) (h10.later hW) wk_7 wk_9.2
  rw[wk_9.1] at this;exact this
 ·intro W hW;have:=zZ4 (hT.later hW) (Tab.later hI hW) (h10.later hW) wk_8 wk_A.2
  rw[wk_A.1] at this;exact this
 ·intro W hW;have:=DHex (a:=4591870180066957722) (Tab.later hI hW) (h10.later hW) (by decide) (by decide)
  rw[wk_6] at this;exact this
 ·intro W hW;have:=xB5 (a:=4602678819172646912) (hT.later hW) (Tab.later hI hW) (by decide) (by decide)
  rw[wk_5] at this;exact this
theorem zI4 {x n:Nat} (h:2^n≤x):n+1≤bl x:=by
 rcases Nat.lt_or_ge n (bl x)with h1|h1
 ·exact h1
 ·have:=(qJ2 x n).1 h1
  omega
theorem zI2 {x:Nat} (h:x≠0):2^(bl x - 1)≤x:=by
 rcases Nat.lt_or_ge x (2^(bl x - 1))with h1|h1
 ·have h2:=(qJ2 x (bl x - 1)).2 h1;have h3:bl x=0:=by omega
  have h4:=(qJ2 x 0).1 (by omega)
  rw[xP2] at h4;omega
 ·exact h1
theorem yD7 {x y k:Nat} (hx:x≠0) (hy:y≠0) (hk:64+bl y≤bl x+k):64≤bl (x*2^k / y):=by
 have h1:=zI2 hx;have h2:y<2^bl y:=(qJ2 y (bl y)).1 (xB6 _);have h0:1≤bl x:=by
  rcases Nat.lt_or_ge 0 (bl x)with h|h
  ·exact h
  ·have h4:=(qJ2 x 0).1 (by omega)
   rw[xP2] at h4;omega
 refine zI4 (n:=63) ?_;rw[Nat.le_div_iff_mul_le (by omega)]
 have h3:2^63*y≤2^63*2^bl y:=xN8 _ (by omega)
 have h4:2^(bl x - 1)*2^k≤x*2^k:=xN2 _ h1;rw[←xM9] at h3 h4;have h5:(2:Nat)^(63+bl y)≤2^(bl x - 1+k):=xN1 (by decide) (by omega)
 omega
theorem yA9 (ex:Bool) (q:Nat) (h:Int) (hq:64≤bl q) (hh : -65535≤h):∃ (x:Nat) (e:Int),-65536≤e∧∀ (s:Bool) (m:Int),1≤m∧m≤3→tfF s ex q h m=sig s (bdy x e (wyN s m)):=by
 cases ex
 ·exact⟨2*q+1,h - 1,by omega,fun s m hm=>by rw[qH6 hq,qM2 hm]⟩
 ·exact⟨q,h,by omega,fun s m hm=>qM2 hm⟩
theorem yO7 {Z:Nat} {P U b c:Nat} (hZ:Z≠0) (hU:U≠0) (hZb:Z<2^b) (hUb:U<2^c) (hP:P+c≤60000):∃ (x:Nat) (e:Int),-65536≤e∧∀ (s:Bool) (m:Int),1≤m∧m≤3→rtF (un (if s then -(Z:Int) else(Z:Int)) P) (un (U:Int) 0) m=sig s (bdy x e (wyN s m)):=by
 have eU:un (U:Int) 0=(false,U / 2^tz U,(tz U:Int)):=by
  unfold un cn;rw[xM7,if_neg hU,xB9 (by omega)]
  simp
 have eZ:∀ s:Bool,un (if s then -(Z:Int) else(Z:Int)) P=(s,Z / 2^tz Z,(tz Z:Int) - (P:Int)):=by
  intro s;cases s
  ·rw[if_neg (by decide)]
   unfold un cn;rw[xM7,if_neg hZ,xB9 (by omega)]
   simp;omega
  ·rw[if_pos rfl];unfold un cn;rw[Int.natAbs_neg,xM7,if_neg hZ,xN (by omega)]
   simp;omega
 have sU:=(qX1 _ _ (xB6 _) hU).1;have sZ':=(qX1 _ _ (xB6 _) hZ).1;have hx:Z / 2^tz Z≠0:=by intro h9;rw[h9,Nat.mul_zero] at sZ';omega
 have hy:U / 2^tz U≠0:=by intro h9;rw[h9,Nat.mul_zero] at sU;omega
 have bU':bl U=bl (U / 2^tz U)+tz U:=by
  have:=zJ4 (x:=U / 2^tz U) (k:=tz U) hy
  rw[xP,sU] at this;exact this
 have hbU:bl U≤c:=(qJ2 U c).2 hUb;generalize U / 2^tz U=y at *;generalize Z / 2^tz Z=x at *;have hk:64+bl y≤bl x+(max 0 (64+(bl y:Int) - (bl x:Int))).toNat:=by omega
 obtain⟨X,e,h1,h2⟩:=yA9 (decide (x*2^(max 0 (64+(bl y:Int) - (bl x:Int))).toNat % y=0)) (x*2^(max 0 (64+(bl y:Int) - (bl x:Int))).toNat / y) ((tz Z:Int) - (P:Int) - (tz U:Int) - (max 0 (64+(bl y:Int) - (bl x:Int))).toNat) (yD7 hx hy hk) (by omega)
 refine⟨X,e,h1,fun s m hm=>?_⟩
 rw[eU,eZ s];unfold rtF rtK;rw[←h2 s m hm];simp
theorem zR7 {b:Int} {D:List UInt8} {h:Nat} {x:Int} (hb:b=10∨b=16) (hd:qX9 D b=true) (hl:D.length≤1100) (hh:h≤1100) (hx : -6000≤x∧x≤6000):∃ (X:Nat) (e:Int),-65536≤e∧∀ (s:Bool) (m:Int),1≤m∧m≤3→rdFl s b D h x m=sig s (bdy X e (wyN s m)):=by
 obtain⟨o1,o2,o3,o4,o5⟩:=xZ5 hb hh hx;unfold rdFl;have hN:dvP b.toNat D D.length<2^(4*D.length):=by
  rcases hb with rfl|rfl
  ·exact zC1 (.inl rfl) hd _ (xB6 _)
  ·exact zC1 (.inr rfl) hd _ (xB6 _)
 generalize dvP b.toNat D D.length=N at *;by_cases h0:N=0
 ·refine⟨0,0,by omega,fun s m hm=>?_⟩
  rw[if_pos h0];unfold bdy;rw[if_pos rfl]
 ·have hz:N*rO b h x≠0:=Nat.mul_ne_zero h0 (by omega)
  obtain⟨X,e,h1,h2⟩:=yO7 (Z:=N*rO b h x) (P:=rP b h x) (U:=rU b h x) (b:=4*D.length+dQ) (c:=dQ) hz (by omega) (zT9 hN o1) o2 (by rw[zY8];omega)
  refine⟨X,e,h1,fun s m hm=>?_⟩
  rw[if_neg h0,←h2 s m hm];congr 2
  cases s
  ·rw[if_neg (by decide),if_neg (by decide),xP3]
  ·rw[if_pos rfl,if_pos rfl,xP3,Int.neg_mul]
end Go.Proofs.YtkcmhaknalomjaaGreatDoor
namespace Go.Proofs.YtkcmhaknalomjaaGreatDoor
open Go.RowKit Go.Fl64
def dgF (c:Nat):Int:=if 48≤c∧c≤57 then(c:Int) - 48 else if 97≤c∧c≤102 then(c:Int) - 87 else if 65≤c∧c≤70 then(c:Int) - 55 else -1
theorem zY9 (c:Nat) (w:World) (hc:c<256) :
  Calls Tryz.prog 146 #[.int .u8 c] w fun r w'=>r=.returned (.int .i64 (dgF c))∧w'=w:=by
 rcases(by omega:c≤47∨(48≤c∧c≤57)∨(58≤c∧c≤64)∨(65≤c∧c≤70)∨(71≤c∧c≤96)∨(97≤c∧c≤102)∨103≤c)with h|h|h|h|h|h|h
 ·have hr:dgF c = -1:=by unfold dgF;rw[if_neg (by omega),if_neg (by omega),if_neg (by omega)]
  have z48:¬ (48:Int)≤(c:Int):=by omega
  have z97:¬ (97:Int)≤(c:Int):=by omega
  have z65:¬ (65:Int)≤(c:Int):=by omega
  have z57:(c:Int)≤57:=by omega
  have z102:(c:Int)≤102:=by omega
  have z70:(c:Int)≤70:=by omega
  rw[hr];clear hr h hc
  go_enter Tryz.func146,Tryz.ntmps146
  go_wp2
  go_ret;exact⟨rfl,rfl⟩
 ·obtain⟨q,hq⟩:∃ q,c=48+q:=⟨c - 48,by omega⟩
  have hr:dgF c=(q:Int):=by unfold dgF;rw[if_pos (by omega)];omega
  have hw1:IntKind.u8.wrap ((c:Int) - 48)=(q:Int):=by rw[IntKind.wrap_u8];omega
  have hw2:IntKind.i64.wrap (q:Int)=(q:Int):=by rw[xM1];omega
  have hw3:IntKind.i64.wrap ((q:Int)+10)=(q:Int)+10:=by rw[xM1];omega
  have z48:(48:Int)≤(c:Int):=by omega
  have z97:¬ (97:Int)≤(c:Int):=by omega
  have z65:¬ (65:Int)≤(c:Int):=by omega
  have z57:(c:Int)≤57:=by omega
  have z102:(c:Int)≤102:=by omega
  have z70:(c:Int)≤70:=by omega
  rw[hr];clear hr h hc hq
  go_enter Tryz.func146,Tryz.ntmps146
  go_wp2
  go_ret;exact⟨rfl,rfl⟩
 ·have hr:dgF c = -1:=by unfold dgF;rw[if_neg (by omega),if_neg (by omega),if_neg (by omega)]
  have z48:(48:Int)≤(c:Int):=by omega
  have z97:¬ (97:Int)≤(c:Int):=by omega
  have z65:¬ (65:Int)≤(c:Int):=by omega
  have z57:¬ (c:Int)≤57:=by omega
  have z102:(c:Int)≤102:=by omega
  have z70:(c:Int)≤70:=by omega
  rw[hr];clear hr h hc
  go_enter Tryz.func146,Tryz.ntmps146
  go_wp2
  go_ret;exact⟨rfl,rfl⟩
 ·obtain⟨q,hq⟩:∃ q,c=65+q:=⟨c - 65,by omega⟩
  have hr:dgF c=(q:Int)+10:=by unfold dgF;rw[if_neg (by omega),if_neg (by omega),if_pos (by omega)];omega
  have hw1:IntKind.u8.wrap ((c:Int) - 65)=(q:Int):=by rw[IntKind.wrap_u8];omega
  have hw2:IntKind.i64.wrap (q:Int)=(q:Int):=by rw[xM1];omega
  have hw3:IntKind.i64.wrap ((q:Int)+10)=(q:Int)+10:=by rw[xM1];omega
  have z48:(48:Int)≤(c:Int):=by omega
  have z97:¬ (97:Int)≤(c:Int):=by omega
  have z65:(65:Int)≤(c:Int):=by omega
  have z57:¬ (c:Int)≤57:=by omega
  have z102:(c:Int)≤102:=by omega
  have z70:(c:Int)≤70:=by omega
  rw[hr];clear hr h hc hq
  go_enter Tryz.func146,Tryz.ntmps146
  go_wp2
  go_ret;exact⟨rfl,rfl⟩
 ·have hr:dgF c = -1:=by unfold dgF;rw[if_neg (by omega),if_neg (by omega),if_neg (by omega)]
  have z48:(48:Int)≤(c:Int):=by omega
  have z97:¬ (97:Int)≤(c:Int):=by omega
  have z65:(65:Int)≤(c:Int):=by omega
  have z57:¬ (c:Int)≤57:=by omega
  have z102:(c:Int)≤102:=by omega
  have z70:¬ (c:Int)≤70:=by omega
  rw[hr];clear hr h hc
  go_enter Tryz.func146,Tryz.ntmps146
  go_wp2
  go_ret;exact⟨rfl,rfl⟩
 ·obtain⟨q,hq⟩:∃ q,c=97+q:=⟨c - 97,by omega⟩
  have hr:dgF c=(q:Int)+10:=by unfold dgF;rw[if_neg (by omega),if_pos (by omega)];omega
  have hw1:IntKind.u8.wrap ((c:Int) - 97)=(q:Int):=by rw[IntKind.wrap_u8];omega
  have hw2:IntKind.i64.wrap (q:Int)=(q:Int):=by rw[xM1];omega
  have hw3:IntKind.i64.wrap ((q:Int)+10)=(q:Int)+10:=by rw[xM1];omega
  have z48:(48:Int)≤(c:Int):=by omega
  have z97:(97:Int)≤(c:Int):=by omega
  have z65:(65:Int)≤(c:Int):=by omega
  have z57:¬ (c:Int)≤57:=by omega
  have z102:(c:Int)≤102:=by omega
  have z70:¬ (c:Int)≤70:=by omega
  rw[hr];clear hr h hc hq
  go_enter Tryz.func146,Tryz.ntmps146
  go_wp2
  go_ret;exact⟨rfl,rfl⟩
 ·have hr:dgF c = -1:=by unfold dgF;rw[if_neg (by omega),if_neg (by omega),if_neg (by omega)]
  have z48:(48:Int)≤(c:Int):=by omega
  have z97:(97:Int)≤(c:Int):=by omega
  have z65:(65:Int)≤(c:Int):=by omega
  have z57:¬ (c:Int)≤57:=by omega
  have z102:¬ (c:Int)≤102:=by omega
  have z70:¬ (c:Int)≤70:=by omega
  rw[hr];clear hr h hc
  go_enter Tryz.func146,Tryz.ntmps146
  go_wp2
  go_ret;exact⟨rfl,rfl⟩
def bhN (n:Nat) (dot:Int):Int:=if dot<0 then 0 else n - dot
theorem zF0 (n:Nat) (d:Int) (w:World) (hn:n≤2000000) (hd : -1≤d∧d≤n) :
  Calls Tryz.prog 147 #[.int .i64 n,.int .i64 d] w fun r w'=>r=.returned (.int .i64 (bhN n d))∧w'=w:=by
 unfold bhN;have hw:IntKind.i64.wrap ((n:Int) - d)=(n:Int) - d:=by rw[xM1];omega
 by_cases h:d<0
 ·rw[if_pos h]
  go_enter Tryz.func147,Tryz.ntmps147
  go_wp2
  go_ret;exact⟨rfl,rfl⟩
 ·rw[if_neg h]
  go_enter Tryz.func147,Tryz.ntmps147
  go_wp2
  go_ret;exact⟨rfl,rfl⟩
def rdX (L:List UInt8) (a:Nat):Nat→Nat
 | 0=>0
 | k+1=>min (10*rdX L a k+(bL L (a+k) - 48)) 1000000000
theorem yB0 (L:List UInt8) (a k:Nat):rdX L a k≤1000000000:=by
 cases k with
 | zero=>exact xM0 _
 | succ k=>exact Nat.min_le_right _ _
theorem zE5 (L:List UInt8) (n p a e:Nat) (neg:Bool) (w:World) (hn:Hid (n=L.length)) (hL:n≤2000000) (hap:p≤n∧p≤a∧a≤p+1) (hae:a≤e) (hen:e≤n)
  (hcs:Hid ((p=n∧a=p∧neg=false)∨(p<n∧bL L p=45∧a=p+1∧neg=true)∨(p<n∧bL L p=43∧a=p+1∧neg=false)∨(p<n∧(bL L p≠45∧bL L p≠43)∧a=p∧neg=false)))
  (hd:Hid (∀ k,a≤k→k<e→48≤bL L k∧bL L k≤57)) (hx:Hid (e<n→bL L e<48∨57<bL L e)) :
  Calls Tryz.prog 83 #[.string ⟨L.toArray⟩,.int .i64 p] w fun r w'=>r=.returned (.tuple #[.int .i64 (if neg then -(rdX L a (e - a):Nat) else(rdX L a (e - a):Nat)),.int .i64 e,.bool (decide (a<e))])∧w'=w:=by
 obtain⟨R,hR⟩:∃ R:ByteArray,R=⟨L.toArray⟩:=⟨_,rfl⟩;have hRs:R.size=n:=by rw[hR,hn.out];rfl
 have hRg:∀ k (h:k<R.size),(R[k]'h).toNat=bL L k:=by subst hR;exact qP8 L
 have HR:Hid (R=⟨L.toArray⟩):=hR;rw[←hR];clear hR;have HRg:Hid (∀ k (h:k<R.size),(R[k]'h).toNat=bL L k):=hRg;clear hRg
 go_enter Tryz.func83,Tryz.ntmps83
 go_upto_region 1 with fail
 go_cut [7] from 10 to 19 (fun v wx=>v=.bool neg∧wx=w)
 case first =>
  rcases hcs.out with ⟨h1,h2,rfl⟩|⟨h1,h2,h3,rfl⟩|⟨h1,h2,h3,rfl⟩|⟨h1,h2,h3,rfl⟩
  ·have z0:¬ (p:Int)<(n:Int):=by omega
   clear h1 h2
   go_wp2_with fail
   go_meet
   exact⟨rfl,rfl⟩
  ·have z0:(p:Int)<(n:Int):=by omega
   have hp2:p<R.size:=by omega
   have hg0:=HRg.out p;rw[h2] at hg0;clear h1 h2 h3
   go_wp2_with fail
   go_meet
   exact⟨rfl,rfl⟩
  ·have z0:(p:Int)<(n:Int):=by omega
   have hp2:p<R.size:=by omega
   have hg0:=HRg.out p;rw[h2] at hg0;clear h1 h2 h3
   go_wp2_with fail
   go_meet
   exact⟨rfl,rfl⟩
  ·have z0:(p:Int)<(n:Int):=by omega
   have hp2:p<R.size:=by omega
   have hg0:=HRg.out p;obtain⟨c,hc⟩:∃ c,c=bL L p:=⟨_,rfl⟩;rw[←hc] at h2 hg0;have z1:¬ (c:Int)=45:=by omega
   have z2:¬ (c:Int)=43:=by omega
   clear hc h1 h2 h3
   go_wp2_with fail
   go_meet
   exact⟨by simp[z1,z2],rfl⟩
 case rest =>
 obtain⟨rfl,rfl⟩:=hcut;obtain⟨sg,hsg⟩:∃ sg:Bool,sg=decide (a=p+1):=⟨_,rfl⟩
 go_upto_region 2 with fail
 go_cut [35] from 20 to 34 (fun v wx=>v=.bool sg∧wx=wc)
 case first =>
  rcases hcs.out with ⟨h1,h2,rfl⟩|⟨h1,h2,h3,rfl⟩|⟨h1,h2,h3,rfl⟩|⟨h1,h2,h3,rfl⟩
  ·have hs9:sg=false:=by rw[hsg,h2];simp
   clear hsg;subst hs9;have z0:¬ (p:Int)<(n:Int):=by omega
   clear h1 h2
   go_wp2_with fail
   go_meet
   exact⟨rfl,rfl⟩
  ·have hs9:sg=true:=by rw[hsg,h3];simp
   clear hsg;subst hs9;have z0:(p:Int)<(n:Int):=by omega
   have hp2:p<R.size:=by omega
   have hg0:=HRg.out p;rw[h2] at hg0;clear h1 h2 h3
   go_wp2_with fail
   go_meet
   exact⟨rfl,rfl⟩
  ·have hs9:sg=true:=by rw[hsg,h3];simp
   clear hsg;subst hs9;have z0:(p:Int)<(n:Int):=by omega
   have hp2:p<R.size:=by omega
   have hg0:=HRg.out p;rw[h2] at hg0;clear h1 h2 h3
   go_wp2_with fail
   go_meet
   exact⟨rfl,rfl⟩
  ·have hs9:sg=false:=by rw[hsg,h3];simp
   clear hsg;subst hs9;have z0:(p:Int)<(n:Int):=by omega
   have hp2:p<R.size:=by omega
   have hg0:=HRg.out p;obtain⟨c,hc⟩:∃ c,c=bL L p:=⟨_,rfl⟩;rw[←hc] at h2 hg0;have z1:¬ (c:Int)=45:=by omega
   have z2:¬ (c:Int)=43:=by omega
   clear hc h1 h2 h3
   go_wp2_with fail
   go_meet
   exact⟨by simp[z1,z2],rfl⟩
 case rest =>
 obtain⟨rfl,rfl⟩:=hcut
 go_upto_if 35 with fail
 go_cut [1] from 36 to 37 (fun v wx=>v=.int .i64 (a:Nat)∧wx=wc)
 case first =>
  cases hq:decide (a=p+1)
  ·have h9:a=p:=by have:=of_decide_eq_false hq;omega
   rw[hq] at hsg;subst hsg;clear hq
   go_wp2_with fail
   go_meet
   exact⟨by rw[h9],rfl⟩
  ·have h9:a=p+1:=of_decide_eq_true hq;rw[hq] at hsg;subst hsg;have hwp:IntKind.i64.wrap ((p:Int)+1)=(a:Int):=by rw[xM1];omega
   clear hq h9
   go_wp2_with fail
   go_meet
   exact⟨rfl,rfl⟩
 case rest =>
 obtain⟨rfl,rfl⟩:=hcut;clear hsg hcs
 go_wp2_with fail
 go_loopw [1,9] (fun v x wr=>∃ i:Nat,a+i≤e∧v=.int .i64 ((a+i:Nat):Int)∧x=.int .i64 (rdX L a i:Nat)∧wr=wc) (fun v _ _=>n - (intOf v).toNat)
 case atStart=>exact⟨0,by omega,rfl,rfl,rfl⟩
 case round =>
  obtain⟨i,hi,rfl,rfl,rfl⟩:=hrel;obtain⟨E,hE⟩:∃ E,E=rdX L a i:=⟨_,rfl⟩;have hE9:E≤1000000000:=by rw[hE];exact yB0 _ _ _
  rw[←hE];obtain⟨k,hk⟩:∃ k,k=a+i:=⟨_,rfl⟩;rw[←hk] at hi ⊢;have hg2:=HRg.out k;by_cases hc:k<e
  ·have hii:(k:Int)<(n:Int):=by omega
   have hkR:k<R.size:=by omega
   obtain⟨c,hcc⟩:∃ c,c=bL L k:=⟨_,rfl⟩;have hcd:=hd.out k (by omega) hc
   rw[←hcc] at hcd hg2;have hwi:IntKind.i64.wrap ((k:Int)+1)=(k:Int)+1:=by rw[xM1];omega
   obtain⟨q,hq⟩:∃ q,c=48+q:=⟨c - 48,by omega⟩
   have hw1:IntKind.i64.wrap (10*(E:Int))=10*E:=by rw[xM1];omega
   have hw2:IntKind.u8.wrap ((c:Int) - 48)=(q:Int):=by rw[IntKind.wrap_u8];omega
   have hw3:IntKind.i64.wrap (q:Int)=(q:Int):=by rw[xM1];omega
   have hw4:IntKind.i64.wrap (10*(E:Int)+q)=10*E+q:=by rw[xM1];omega
   have z48:(48:Int)≤(c:Int):=by omega
   have z57:(c:Int)≤57:=by omega
   obtain⟨M,hM⟩:∃ M,M=rdX L a (i+1):=⟨_,rfl⟩;have hmin:min (10*(E:Int)+q) 1000000000=(M:Int):=by
    rw[hM];unfold rdX;rw[←hE,←hk,←hcc,hq];omega
   have HM:Hid (M=rdX L a (i+1)):=hM;have HK:Hid (k=a+i):=hk;have HQ:Hid (c=48+q):=hq;clear hM hE hcc hq hk hcd
   go_wp2;have hk:=HK.out;refine⟨⟨i+1,by omega,by congr 1;push_cast;omega,by rw[←HM.out],trivial⟩,by simp[intOf];omega⟩
  ·obtain rfl:k=e:=by omega
   have HE:Hid (E=rdX L a (k - a)):=by rw[hE,hk];congr 1;omega
   have hwn:IntKind.i64.wrap (-(E:Int)) = -E:=by rw[xM1];omega
   have hdc:decide ((a:Int)<(k:Int))=decide (a<k):=by simp
   have hxx:=hx.out;clear hE hk;by_cases hkn:k<n
   ·have hii:(k:Int)<(n:Int):=by omega
    have hkR:k<R.size:=by omega
    obtain⟨c,hcc⟩:∃ c,c=bL L k:=⟨_,rfl⟩;have hcd:=hxx hkn;rw[←hcc] at hcd hg2;have HX:Hid (c=bL L k):=hcc;clear hcc hxx;rcases hcd with h48|h57
    ·have z48:¬ (48:Int)≤(c:Int):=by omega
     clear h48;cases neg <;> (go_wp2;refine xM4 (results_tmp3 rfl _ _ _) rfl ?_;rw[←HE.out];exact⟨by first|rfl|simp,rfl⟩)
    ·have z48:(48:Int)≤(c:Int):=by omega
     have z57:¬ (c:Int)≤57:=by omega
     clear h57;cases neg <;> (go_wp2;refine xM4 (results_tmp3 rfl _ _ _) rfl ?_;rw[←HE.out];exact⟨by first|rfl|simp,rfl⟩)
   ·have hii:¬ (k:Int)<(n:Int):=by omega
    cases neg <;> (go_wp2;refine xM4 (results_tmp3 rfl _ _ _) rfl ?_;rw[←HE.out];exact⟨by first|rfl|simp,rfl⟩)
theorem zE4 (m:Int) (w:World) :
  Calls Tryz.prog 29 #[.int .i64 m] w fun r w'=>r=.returned (.bool (decide (1≤m∧m≤3)))∧w'=w:=by
 by_cases h1:1≤m
 ·by_cases h3:m≤3
  ·rw[xN ⟨h1,h3⟩]
   go_enter Tryz.func29,Tryz.ntmps29
   go_wp2
   go_ret;exact⟨rfl,rfl⟩
  ·rw[xB9 (fun h=>h3 h.2)]
   go_enter Tryz.func29,Tryz.ntmps29
   go_wp2
   go_ret;exact⟨rfl,rfl⟩
 ·rw[xB9 (fun h=>h1 h.1)]
  go_enter Tryz.func29,Tryz.ntmps29
  go_wp2
  go_ret;exact⟨rfl,rfl⟩
theorem xJ9 (b:Bool) (w:World) :
  Calls Tryz.prog 84 #[.bool b] w fun r w'=>r=.returned (.int .i64 (if b then 1 else 0))∧w'=w:=by
 cases b
 ·go_enter Tryz.func84,Tryz.ntmps84
  go_wp2
  go_ret;exact⟨rfl,rfl⟩
 ·go_enter Tryz.func84,Tryz.ntmps84
  go_wp2
  go_ret;exact⟨rfl,rfl⟩
end Go.Proofs.YtkcmhaknalomjaaGreatDoor
namespace Go.Proofs.YtkcmhaknalomjaaGreatDoor
open Go Go.RowKit Go.Fl64
def BC (U:World) (v:Value) (L:List UInt8):Prop:=∃ ao cap,v=.slice ao L.length cap∧(L ≠ []→∃ g,ao=some ⟨g,0,none⟩∧∀ i (h:i<L.length),U.cell? ⟨g,i,none⟩=some (.int .u8 (L[i].toNat:Int)))
theorem BC.later {U U':World} {v:Value} {L:List UInt8} (h:BC U v L) (hb:Bw U U'):BC U' v L:=by
 obtain⟨ao,cap,h1,h2⟩:=h;refine⟨ao,cap,h1,fun hL=>?_⟩
 obtain⟨g,h3,h4⟩:=h2 hL;exact⟨g,h3,fun i hi=>(hb.cell (World.block_lt_of_cell? _ _ (h4 i hi))).trans (h4 i hi)⟩
theorem OB.bc {w wr:World} {v:Value} {L:List UInt8} (h:OB w wr v L):BC wr v L:=by
 obtain⟨⟨hlen,h|⟨g,cp,cur,rfl,hg1,hg2,hg3,hg4,hg5,hg6⟩⟩,hBB⟩:=h
 ·have hl:=h.2;exact⟨none,0,by rw[h.1,hl],fun hL=>absurd (List.length_eq_zero_iff.1 hl) hL⟩
 ·refine⟨_,_,rfl,fun hL=>⟨g,rfl,fun i hi=>?_⟩⟩
  rw[Lib.cell_of_heap hg2];have h8:(cur.toList.take (L.length*1))[i]?=(Lib.byteCells L)[i]?:=by rw[hg6]
  rw[List.getElem?_take_of_lt (by omega)] at h8
  rw[←Array.getElem?_toList,h8];simp[Lib.byteCells,hi]
theorem yJ9 (w:World) (ao:Option Addr) (cap:Nat):(convert 79 9 (.slice ao 0 cap)).run Tryz.prog w=.ok (.string ⟨#[]⟩) w:=by
 cases ao with
 | some a=>exact run_convert_bytes_back (P:=Tryz.prog) w 79 9 5 a cap [] Tryz.underlying79 Tryz.underlying5 Tryz.underlying9 (fun j hj=>absurd hj (Nat.not_lt_zero _))
 | none =>
  rw[run_convert_bytes_string w 79 9 5 none 0 cap Tryz.underlying79 Tryz.underlying5 Tryz.underlying9];rfl
theorem BC.conv {U:World} {v:Value} {L:List UInt8} (h:BC U v L):(convert 79 9 v).run Tryz.prog U=.ok (.string ⟨L.toArray⟩) U:=by
 obtain⟨ao,cap,rfl,h2⟩:=h;by_cases hL:L = []
 ·subst hL;exact yJ9 U ao cap
 ·obtain⟨g,rfl,h4⟩:=h2 hL;exact run_convert_bytes_back (P:=Tryz.prog) U 79 9 5 ⟨g,0,none⟩ cap L Tryz.underlying79 Tryz.underlying5 Tryz.underlying9 (fun i hi=>by
   have ea:(⟨g,0,none⟩:Addr).add i=⟨g,i,none⟩:=by simp[Addr.add,eq_comm]
   rw[ea];exact h4 i hi)
def spG (b:Int) (out:List UInt8) (dot:Int):List UInt8→Nat→List UInt8×Int×Nat
 | [],k=>(out,dot,k)
 | c :: r,k=>if c=46∧dot<0 then spG b out out.length r (k+1)else if 0≤dgF c.toNat∧dgF c.toNat<b then spG b (out ++ [c]) dot r (k+1) else(out,dot,k)
theorem yW5 (c:Nat) : -1≤dgF c∧dgF c≤15:=by
 unfold dgF;split
 ·omega
 ·split
  ·omega
  ·split <;> omega
theorem zC5 {L:List UInt8} {k:Nat} (h:k<L.length):∃ c:UInt8,L.drop k=c :: L.drop (k+1)∧c.toNat=bL L k:=by
 refine⟨L[k],List.drop_eq_getElem_cons h,?_⟩
 unfold bL;rw[List.getElem?_eq_getElem h];rfl
theorem eval_cst (a : Act) (v : Value) : a.eval (.const v) = v := rfl
theorem xJ8 (L:List UInt8) (n a:Nat) (b:Int) (w:World) (hn:Hid (n=L.length)) (hL:n≤2000000) (ha:a≤n) :
  Calls Tryz.prog 82 #[.string ⟨L.toArray⟩,.int .i64 a,.int .i64 b] w fun r w'=>r=.returned (.tuple #[.string ⟨(spG b [] (-1) (L.drop a) a).1.toArray⟩,.int .i64 (bhN (spG b [] (-1) (L.drop a) a).1.length (spG b [] (-1) (L.drop a) a).2.1),.int .i64 (spG b [] (-1) (L.drop a) a).2.2])∧Bw w w':=by
 obtain⟨G,hG⟩:∃ G,G=spG b [] (-1) (L.drop a) a:=⟨_,rfl⟩;rw[←hG];have HG0:Hid (spG b [] (-1) (L.drop a) a=G):=hG.symm;clear hG;obtain⟨R,hR⟩:∃ R:ByteArray,R=⟨L.toArray⟩:=⟨_,rfl⟩;have hRs:R.size=n:=by rw[hR,hn.out];rfl
 have hRg:∀ k (h:k<R.size),(R[k]'h).toNat=bL L k:=by subst hR;exact qP8 L
 have HR:Hid (R=⟨L.toArray⟩):=hR;rw[←hR];clear hR;have HRg:Hid (∀ k (h:k<R.size),(R[k]'h).toNat=bL L k):=hRg;clear hRg;obtain⟨i0,hi0,hz0,hz1,hz2⟩:=info_parts zA9
 go_enter Tryz.func82,Tryz.ntmps82
 go_wp2
 go_loopw [1,9,10] (fun v x y wr=>∃ (k:Nat) (out:List UInt8) (dot:Int),k≤n∧v=.int .i64 (k:Nat)∧y=.int .i64 dot ∧ -1≤dot∧dot≤out.length∧out.length≤k∧Hid (OB w wr x out)∧Hid (spG b out dot (L.drop k) k=G)) (fun v _ _ _=>n - (intOf v).toNat)
 case atStart=>exact⟨a,[],-1,ha,rfl,rfl,by decide,by decide,xM0 _,(⟨World.ownsRow_nil ..,xB7 _ _⟩:OB w w _ []),HG0⟩
 case round =>
  obtain⟨k,out,dot,hk,rfl,rfl,hd1,hd2,hok,HO,HF⟩:=hrel;have hol:out.length≤2000000:=by omega
  obtain⟨ao,ca,hsh⟩:=HO.out.shape;subst hsh;have BCV:Hid (BC wr (.slice ao out.length ca) out):=HO.out.bc;have HB1:Hid (Bw w wr):=HO.out.2;have hg2:=HRg.out k;by_cases hkn:k<n
  ·have hii:(k:Int)<(n:Int):=by omega
   have hkR:k<R.size:=by omega
   obtain⟨cb,hcb,hcc⟩:=zC5 (L:=L) (k:=k) (by have:=hn.out;omega)
   obtain⟨c,hc⟩:∃ c,c=bL L k:=⟨_,rfl⟩;rw[←hc] at hcc hg2;have hc256:c<256:=by rw[←hcc];exact cb.toNat_lt
   rw[hcb] at HF;unfold spG at HF;have hwi:IntKind.i64.wrap ((k:Int)+1)=(k:Int)+1:=by rw[xM1];omega
   by_cases h46:c=46∧dot<0
   ·rw[if_pos ⟨by rw[←UInt8.toNat_inj,hcc];exact h46.1,h46.2⟩] at HF
    obtain⟨rfl,hdd⟩:=h46;have HC:Hid (46=bL L k):=hc;clear hc hcc hcb;obtain⟨D,hD⟩:∃ D,D=dgF 46:=⟨_,rfl⟩;have kd:=zY9 46 wr hc256;rw[←hD] at kd;clear hD
    go_wp2_with (go_at_call 146;refine kd.mono ?_;rintro r w' ⟨rfl,hw⟩;replace hw:=hw.symm;subst hw)
    exact⟨⟨k+1,out,out.length,by omega,by congr 1,rfl,by omega,by omega,by omega,HO,HF⟩,by simp[intOf];omega⟩
   ·rw[if_neg (fun h=>h46 ⟨by rw[←hcc,h.1];rfl,h.2⟩)] at HF
    have hcase:((c:Int)==46&&decide (dot<0))=false:=by
     rw[Bool.and_eq_false_iff];by_cases h:c=46
     ·exact .inr (xB9 (fun h'=>h46 ⟨h,h'⟩))
     ·exact .inl (by rw[xM8];omega)
    have kd:=zY9 c wr hc256;have hDr : -1≤dgF c∧dgF c≤15:=yW5 c;obtain⟨D,hD⟩:∃ D,D=dgF c:=⟨_,rfl⟩;rw[hcc,←hD] at HF;rw[←hD] at kd hDr;have HD46:Hid (c=46→D<0):=(fun e=>by rw[hD,e];decide:c=46→D<0)
    have HC:Hid (c=bL L k∧cb.toNat=c):=⟨hc,hcc⟩;clear hc hcc hcb hD;by_cases hDD:0≤D∧D<b
    ·rw[if_pos hDD] at HF;obtain⟨hD0,hDb⟩:=hDD;have hne:¬ (c:Int)=46:=fun e=>absurd HD46.out (by intro h;have:=h (by omega);omega)
     have HSZ:Hid (w.heap.size≤wr.heap.size):=HO.out.2.size;have HP:Hid (UInt8.ofNat c=cb):=(by rw[←HC.out.2,UInt8.ofNat_toNat]:UInt8.ofNat c=cb)
     go_wp2_with (first|(go_at_call 146;refine kd.mono ?_;rintro r w' ⟨rfl,hw⟩;replace hw:=hw.symm;subst hw)|(at_builtin;refine wpList_append_own _ rfl _ _ 79 rfl w.heap.size 5 i0 (.int .u8 0) 1 1 Tryz.underlying79 hi0 hz0 hz1 hz2 rfl (by decide) _ _ _ rfl (HO.out.1.alloc _) ⟨wr.heap.size,0,none⟩ 1 1 [.int .u8 _] rfl rfl (cell_one_new _ _ _) (by intro u hu;simp at hu;subst hu;rfl) (by unfold maxLen;omega) (by have:=HSZ.out;omega) (by simp;have:=HSZ.out;omega) ?_))
     intro v' w4 hown4 hgrow _;have HFF:=HO.out.push hc256 hown4 hgrow;rw[HP.out] at HFF;have HF3:Hid (OB w w4 v' (out ++ [cb])):=HFF;clear HFF hown4 hgrow
     go_wp2_with fail;exact⟨⟨k+1,out ++ [cb],dot,by omega,by congr 1,rfl,hd1,by simp;omega,by simp;omega,HF3,HF⟩,by simp[intOf];omega⟩
    ·rw[if_neg hDD] at HF;have HG:Hid ((out,dot,k)=G):=HF;have HDD:Hid (¬ (0≤D∧D<b)):=hDD;have H46:Hid (¬ (c=46∧dot<0)):=h46;clear HD46 h46 hDD hDr hcase HF
     go_upto_region 6 with (go_at_call 146;refine kd.mono ?_;rintro r w' ⟨rfl,hw⟩;replace hw:=hw.symm;subst hw)
     go_cut [27] from 28 to 35 (fun v wx=>v=.bool false∧wx=wr)
     case first =>
      by_cases hc46:c=46
      ·have hd3:¬ dot<0:=fun h=>H46.out ⟨hc46,h⟩;subst hc46
       go_wp2_with fail
       go_meet
       exact⟨by simp[hd3],rfl⟩
      ·have hne:¬ (c:Int)=46:=by omega
       go_wp2_with fail
       go_meet
       exact⟨by simp[hne],rfl⟩
     case rest =>
     obtain⟨rfl,hw⟩:=hcut;subst hw
     go_upto_region 8 with fail
     go_cut [38] from 39 to 45 (fun v wx=>v=.bool false∧wx=wc)
     case first =>
      by_cases hD0:0≤D
      ·have hDb:¬ D<b:=fun h=>HDD.out ⟨hD0,h⟩
       go_wp2_with fail
       go_meet
       exact⟨by simp[hDb],rfl⟩
      ·go_wp2_with fail
       go_meet
       exact⟨by simp[hD0],rfl⟩
     case rest =>
     obtain⟨rfl,hw⟩:=hcut;subst hw;clear HDD H46 kd
     go_upto_region 5 with fail;refine qU1 [0,1,2,3,4,5,6,7,8,9] [20,21,22,23,24,25,26,6,7,8] [[],[0],[],[2],[],[3,4],[],[1],[5],[6]] wc _ [isV (.slice ao out.length ca),isV (.string ⟨out.toArray⟩),isV (.slice ao out.length ca),isV (.int .i64 (out.length:Nat)),isV (.int .i64 dot),isV (.int .i64 (bhN out.length dot)),isV (.int .i64 (k:Nat)),isV (.string ⟨out.toArray⟩),isV (.int .i64 (bhN out.length dot)),isV (.int .i64 (k:Nat))] (by kernel_rfl) ⟨qQ1 _,qQ1 _,qQ1 _,qQ1 _,qQ1 _,qQ1 _,qQ1 _,qQ1 _,qQ1 _,qQ1 _,trivial⟩ (by show ∀ s ∈ [20,21,22,23,24,25,26,6,7,8],s<61;decide) ?_ ?_
     ·intro j hj o ho act U hb hoth hdep;have hj':j<10:=hj;have t9':act.tmps[(9:Nat)]?=some (Value.slice ao out.length ca):=(hoth 9 (by decide)).trans rfl
      have t10':act.tmps[(10:Nat)]?=some (Value.int .i64 dot):=(hoth 10 (by decide)).trans rfl
      have t1':act.tmps[(1:Nat)]?=some (Value.int .i64 (k:Nat)):=(hoth 1 (by decide)).trans rfl
      rcases(by omega:j=0∨j=1∨j=2∨j=3∨j=4∨j=5∨j=6∨j=7∨j=8∨j=9)with rfl|rfl|rfl|rfl|rfl|rfl|rfl|rfl|rfl|rfl
      ·obtain rfl:=xB8 ho;exact .inl ⟨rfl,qZ6 rfl t9' ⟨_,rfl,rfl,xB7 _ _⟩⟩
      ·obtain rfl:=xB8 ho;have y0:act.tmps[(20:Nat)]?=_:=dV (hdep 0 (by simp[dL])) rfl
       exact .inl ⟨rfl,qZ4 (w':=U) (by simp[execOp,qZ y0,(BCV.out.later hb).conv]) ⟨_,rfl,rfl,xB7 _ _⟩⟩
      ·obtain rfl:=xB8 ho;exact .inl ⟨rfl,qZ6 rfl t9' ⟨_,rfl,rfl,xB7 _ _⟩⟩
      ·obtain rfl:=xB8 ho;have y2:act.tmps[(22:Nat)]?=_:=dV (hdep 2 (by simp[dL])) rfl
       exact .inl ⟨rfl,qZ4 (w':=U) (by simp[execOp,y2,eval_cst,go_sem]) ⟨_,rfl,rfl,xB7 _ _⟩⟩
      ·obtain rfl:=xB8 ho;exact .inl ⟨rfl,qZ6 rfl t10' ⟨_,rfl,rfl,xB7 _ _⟩⟩
      ·obtain rfl:=xB8 ho;have y3:act.tmps[(23:Nat)]?=_:=dV (hdep 3 (by simp[dL])) rfl
       have y4:act.tmps[(24:Nat)]?=_:=dV (hdep 4 (by simp[dL])) rfl
       refine .inl ⟨rfl,qQ9 rfl (qZ5 Tryz.func147 (by kernel_rfl) (by kernel_rfl)) (vs:=#[.int .i64 (out.length:Nat),.int .i64 dot]) (by simp[qZ y3,qZ y4]) ?_⟩
       refine(zF0 out.length dot U hol ⟨hd1,hd2⟩).mono ?_
       rintro r w' ⟨rfl,hw⟩;replace hw:=hw.symm;subst hw;exact⟨_,rfl,_,rfl,rfl,xB7 _ _⟩
      ·obtain rfl:=xB8 ho;exact .inl ⟨rfl,qZ6 rfl t1' ⟨_,rfl,rfl,xB7 _ _⟩⟩
      ·obtain rfl:=xB8 ho;have y1:act.tmps[(21:Nat)]?=_:=dV (hdep 1 (by simp[dL])) rfl
       exact .inl ⟨rfl,qX0 rfl y1 ⟨_,rfl,rfl,xB7 _ _⟩⟩
      ·obtain rfl:=xB8 ho;have y5:act.tmps[(25:Nat)]?=_:=dV (hdep 5 (by simp[dL])) rfl
       exact .inl ⟨rfl,qX0 rfl y5 ⟨_,rfl,rfl,xB7 _ _⟩⟩
      ·obtain rfl:=xB8 ho;have y6:act.tmps[(26:Nat)]?=_:=dV (hdep 6 (by simp[dL])) rfl
       exact .inl ⟨rfl,qX0 rfl y6 ⟨_,rfl,rfl,xB7 _ _⟩⟩
     ·intro u W9 hb9 hu;have u7:u 7=.string ⟨out.toArray⟩:=hu 7 (by show 7<10;decide)
      have u8:u 8=.int .i64 (bhN out.length dot):=hu 8 (by show 8<10;decide)
      have u9:u 9=.int .i64 (k:Nat):=hu 9 (by show 9<10;decide)
      clear hu;simp only[putL,show List.range 10 = [0,1,2,3,4,5,6,7,8,9] from rfl,List.length_cons,List.length_nil,List.getD_cons_zero,List.getD_cons_succ,List.map_cons,List.map_nil,List.cons_append,List.nil_append,List.foldl_cons,List.foldl_nil,Nat.reduceLT,Nat.reduceMod,Nat.reduceDiv,Nat.reduceMul,Nat.reduceAdd,Nat.reduceEqDiff,reduceIte,Nat.one_ne_zero,Act.put,List.setIfInBounds_toArray,List.set_cons_zero,List.set_cons_succ];rw[u7,u8,u9];clear u7 u8 u9;have HB9:Hid (Bw wc W9):=hb9;clear hb9
      go_wp2;refine xM4 (results_tmp3 rfl _ _ _) rfl ?_;rw[←HG.out];exact⟨rfl,HB1.out.trans (HB9.out.mono HB1.out.size)⟩
  ·obtain rfl:k=n:=by omega
   have hii:¬ (k:Int)<(k:Int):=by omega
   have hdr:L.drop k = []:=List.drop_eq_nil_of_le (by have:=hn.out;omega)
   rw[hdr] at HF;have HG:Hid ((out,dot,k)=G):=HF;clear hdr
   go_upto_region 11 with fail;refine qU1 [0,1,2,3,4,5,6,7,8,9] [54,55,56,57,58,59,60,6,7,8] [[],[0],[],[2],[],[3,4],[],[1],[5],[6]] wr _ [isV (.slice ao out.length ca),isV (.string ⟨out.toArray⟩),isV (.slice ao out.length ca),isV (.int .i64 (out.length:Nat)),isV (.int .i64 dot),isV (.int .i64 (bhN out.length dot)),isV (.int .i64 (k:Nat)),isV (.string ⟨out.toArray⟩),isV (.int .i64 (bhN out.length dot)),isV (.int .i64 (k:Nat))] (by kernel_rfl) ⟨qQ1 _,qQ1 _,qQ1 _,qQ1 _,qQ1 _,qQ1 _,qQ1 _,qQ1 _,qQ1 _,qQ1 _,trivial⟩ (by show ∀ s ∈ [54,55,56,57,58,59,60,6,7,8],s<61;decide) ?_ ?_
   ·intro j hj o ho act U hb hoth hdep;have hj':j<10:=hj;have t9':act.tmps[(9:Nat)]?=some (Value.slice ao out.length ca):=(hoth 9 (by decide)).trans rfl
    have t10':act.tmps[(10:Nat)]?=some (Value.int .i64 dot):=(hoth 10 (by decide)).trans rfl
    have t1':act.tmps[(1:Nat)]?=some (Value.int .i64 (k:Nat)):=(hoth 1 (by decide)).trans rfl
    rcases(by omega:j=0∨j=1∨j=2∨j=3∨j=4∨j=5∨j=6∨j=7∨j=8∨j=9)with rfl|rfl|rfl|rfl|rfl|rfl|rfl|rfl|rfl|rfl
    ·obtain rfl:=xB8 ho;exact .inl ⟨rfl,qZ6 rfl t9' ⟨_,rfl,rfl,xB7 _ _⟩⟩
    ·obtain rfl:=xB8 ho;have y0:act.tmps[(54:Nat)]?=_:=dV (hdep 0 (by simp[dL])) rfl
     exact .inl ⟨rfl,qZ4 (w':=U) (by simp[execOp,qZ y0,(BCV.out.later hb).conv]) ⟨_,rfl,rfl,xB7 _ _⟩⟩
    ·obtain rfl:=xB8 ho;exact .inl ⟨rfl,qZ6 rfl t9' ⟨_,rfl,rfl,xB7 _ _⟩⟩
    ·obtain rfl:=xB8 ho;have y2:act.tmps[(56:Nat)]?=_:=dV (hdep 2 (by simp[dL])) rfl
     exact .inl ⟨rfl,qZ4 (w':=U) (by simp[execOp,y2,eval_cst,go_sem]) ⟨_,rfl,rfl,xB7 _ _⟩⟩
    ·obtain rfl:=xB8 ho;exact .inl ⟨rfl,qZ6 rfl t10' ⟨_,rfl,rfl,xB7 _ _⟩⟩
    ·obtain rfl:=xB8 ho;have y3:act.tmps[(57:Nat)]?=_:=dV (hdep 3 (by simp[dL])) rfl
     have y4:act.tmps[(58:Nat)]?=_:=dV (hdep 4 (by simp[dL])) rfl
     refine .inl ⟨rfl,qQ9 rfl (qZ5 Tryz.func147 (by kernel_rfl) (by kernel_rfl)) (vs:=#[.int .i64 (out.length:Nat),.int .i64 dot]) (by simp[qZ y3,qZ y4]) ?_⟩
     refine(zF0 out.length dot U hol ⟨hd1,hd2⟩).mono ?_
     rintro r w' ⟨rfl,hw⟩;replace hw:=hw.symm;subst hw;exact⟨_,rfl,_,rfl,rfl,xB7 _ _⟩
    ·obtain rfl:=xB8 ho;exact .inl ⟨rfl,qZ6 rfl t1' ⟨_,rfl,rfl,xB7 _ _⟩⟩
    ·obtain rfl:=xB8 ho;have y1:act.tmps[(55:Nat)]?=_:=dV (hdep 1 (by simp[dL])) rfl
     exact .inl ⟨rfl,qX0 rfl y1 ⟨_,rfl,rfl,xB7 _ _⟩⟩
    ·obtain rfl:=xB8 ho;have y5:act.tmps[(59:Nat)]?=_:=dV (hdep 5 (by simp[dL])) rfl
     exact .inl ⟨rfl,qX0 rfl y5 ⟨_,rfl,rfl,xB7 _ _⟩⟩
    ·obtain rfl:=xB8 ho;have y6:act.tmps[(60:Nat)]?=_:=dV (hdep 6 (by simp[dL])) rfl
     exact .inl ⟨rfl,qX0 rfl y6 ⟨_,rfl,rfl,xB7 _ _⟩⟩
   ·intro u W9 hb9 hu;have u7:u 7=.string ⟨out.toArray⟩:=hu 7 (by show 7<10;decide)
    have u8:u 8=.int .i64 (bhN out.length dot):=hu 8 (by show 8<10;decide)
    have u9:u 9=.int .i64 (k:Nat):=hu 9 (by show 9<10;decide)
    clear hu;simp only[putL,show List.range 10 = [0,1,2,3,4,5,6,7,8,9] from rfl,List.length_cons,List.length_nil,List.getD_cons_zero,List.getD_cons_succ,List.map_cons,List.map_nil,List.cons_append,List.nil_append,List.foldl_cons,List.foldl_nil,Nat.reduceLT,Nat.reduceMod,Nat.reduceDiv,Nat.reduceMul,Nat.reduceAdd,Nat.reduceEqDiff,reduceIte,Nat.one_ne_zero,Act.put,List.setIfInBounds_toArray,List.set_cons_zero,List.set_cons_succ];rw[u7,u8,u9];clear u7 u8 u9;have HB9:Hid (Bw wr W9):=hb9;clear hb9
    go_wp2;refine xM4 (results_tmp3 rfl _ _ _) rfl ?_;rw[←HG.out];exact⟨rfl,HB1.out.trans (HB9.out.mono HB1.out.size)⟩
def NbQ (W:World) (g:Nat) (s:Bool) (ao:Option Addr) (n cp:Nat) (e:Int) (T:Bool×Nat×Int):Prop:=W.heap[g]?=some (.cells #[.bool s,.slice ao n cp,.int .i64 e] 69 (0,0))∧DN W (.agg #[.bool s,.slice ao n cp,.int .i64 e]) T
theorem NbQ.later {W w':World} {g:Nat} {s:Bool} {ao:Option Addr} {n cp:Nat} {e:Int} {T:Bool×Nat×Int} (h:NbQ W g s ao n cp e T) (hb:Bw W w'):NbQ w' g s ao n cp e T :=
 ⟨qQ h.1 hb (Array.getElem?_eq_some_iff.1 h.1).1,h.2.later hb⟩
theorem zN5 {W:World} {ao:Option Addr} {n z g:Nat} {x y v:Value} {s0:Bool} {ao0:Option Addr} {n0 cp0:Nat} {e0:Int} (h:At W ao n z) (hE:W.heap[g]?=some (.cells #[.bool s0,.slice ao0 n0 cp0,.int .i64 e0] 69 (0,0))):At (((W.setCell ⟨g,0,none⟩ x).setCell ⟨g,1,none⟩ y).setCell ⟨g,2,none⟩ v) ao n z:=by
 obtain⟨bb,o,h1,h2⟩:=h;refine⟨bb,o,h1,fun i hi=>?_⟩
 have hc:=h2 i hi;have hne:bb≠g:=by
  rintro rfl;simp only[World.cell?,hE] at hc;rcases(show o+i=0∨o+i=1∨o+i=2∨3≤o+i by omega)with e|e|e|e
  ·rw[e] at hc;simp at hc
  ·rw[e] at hc;simp at hc
  ·rw[e] at hc;simp at hc
  ·rw[Array.getElem?_eq_none (by simpa using e)] at hc;cases hc
 rw[zA4 hne];exact hc
theorem DN.storeQ {W:World} {A:Value} {t:Bool×Nat×Int} {g:Nat} {s0:Bool} {ao0:Option Addr} {n0 cp0:Nat} {e0:Int} (h:DN W A t) (hE:W.heap[g]?=some (.cells #[.bool s0,.slice ao0 n0 cp0,.int .i64 e0] 69 (0,0))) (x y v:Value):DN (((W.setCell ⟨g,0,none⟩ x).setCell ⟨g,1,none⟩ y).setCell ⟨g,2,none⟩ v) A t:=by
 obtain⟨ao,cap,h1,h2⟩:=h;exact⟨ao,cap,h1,h2.nil,zN5 h2.at_ hE,h2.le,h2.small⟩
theorem NbQ.put {W:World} {g:Nat} {s:Bool} {ao:Option Addr} {n cp:Nat} {e:Int} {T:Bool×Nat×Int} (h:NbQ W g s ao n cp e T) {s':Bool} {ao':Option Addr} {n' cp':Nat} {e':Int} {T':Bool×Nat×Int} (hd:DN W (.agg #[.bool s',.slice ao' n' cp',.int .i64 e']) T') :
  NbQ (((W.setCell ⟨g,0,none⟩ (.bool s')).setCell ⟨g,1,none⟩ (.slice ao' n' cp')).setCell ⟨g,2,none⟩ (.int .i64 e')) g s' ao' n' cp' e' T' :=
 ⟨qX2 _ _ _ h.1,hd.storeQ h.1 _ _ _⟩
theorem qG8 {W:World} {g k:Nat} {o:Obj} (h:W.heap[k]?=some o) (hk:k≠g) (x y v:Value):(((W.setCell ⟨g,0,none⟩ x).setCell ⟨g,1,none⟩ y).setCell ⟨g,2,none⟩ v).heap[k]?=some o:=by
 have h':¬ g=k:=fun e=>hk e.symm;simp[World.setCell,Array.getElem?_modify,h',h]
theorem NbQ.other {W:World} {g k:Nat} {s:Bool} {ao:Option Addr} {n cp:Nat} {e:Int} {T:Bool×Nat×Int} (h:NbQ W k s ao n cp e T) {s0:Bool} {ao0:Option Addr} {n0 cp0:Nat} {e0:Int} (hE:W.heap[g]?=some (.cells #[.bool s0,.slice ao0 n0 cp0,.int .i64 e0] 69 (0,0))) (hk:k≠g) (x y v:Value) :
  NbQ (((W.setCell ⟨g,0,none⟩ x).setCell ⟨g,1,none⟩ y).setCell ⟨g,2,none⟩ v) k s ao n cp e T :=
 ⟨qG8 h.1 hk _ _ _,h.2.storeQ hE _ _ _⟩
theorem zU6 (d:Int) (w:World):(Instr.buildSlice 63 1 #[(0,.int .u32 d)]).run Tryz.prog w=.ok (.slice (some ⟨w.heap.size,0,none⟩) 1 1) (w.alloc (.cells #[.int .u32 d] 125)):=by kernel_rfl
theorem yD5 (d:Nat) (w:World) (h:d<256):(convert 5 125 (.int .u8 (d:Int))).run Tryz.prog w=.ok (.int .u32 (d:Int)) w:=by
 have e:(convert 5 125 (.int .u8 (d:Int))).run Tryz.prog w=.ok (.int .u32 (IntKind.u32.wrap (d:Int))) w:=by kernel_rfl
 rw[e,IntKind.wrap_u32,Int.emod_eq_of_lt (by omega) (by omega)]
theorem zS9 (s:ByteArray) (j c:Nat) (h:j<s.size) (hc:(s[j]'h).toNat=c) (w:World):(Instr.index 9 (.string s) (.int .i64 (j:Int))).run Tryz.prog w=.ok (.int .u8 (c:Int)) w:=by
 rw[run_index_string w 9 s .i64 (j:Int) (by kernel_rfl),dif_pos ⟨by omega,by omega⟩]
 have:(s[(j:Int).toNat]'(by omega)).toNat=c:=hc
 rw[this]
theorem qR3 (x:Nat):qW1 (fun w u=>Ir w u x):=fun _ _ _ hb h=>Ir.later h hb
theorem zK7 (d:Nat):qW1 (fun w u=>∃ g,u=.slice (some ⟨g,0,none⟩) 1 1∧w.cell? ⟨g,0,none⟩=some (.int .u32 (d:Int))):=fun _ _ _ hb h=>by
 obtain⟨g,h1,h2⟩:=h;exact⟨g,h1,(hb.cell (World.block_lt_of_cell? _ _ h2)).trans h2⟩
theorem dg_dF {d:Nat} (h:d<16):dg d 0=d:=by unfold dg;rw[xP2,Nat.div_one];exact xN9 (Nat.lt_trans h (by decide))
theorem qN1 {d:Nat} (h:d<16):dlen d≤1:=(qZ0 _ _).2 (by rw[Nat.pow_one];exact Nat.lt_trans h (by decide))
theorem yC7 {V:World} {g d m:Nat} (hm:m≤1) (hcl:V.cell? ⟨g,0,none⟩=some (.int .u32 (d:Int))) (h:d<16):At V (some ⟨g,0,none⟩) m d:=by
 refine⟨g,0,fun _=>rfl,fun i hi=>?_⟩
 obtain rfl:i=0:=by omega
 rw[dg_dF h];exact hcl
theorem zW0 (U:World) (d:Nat) (h0:0<d) (h:d<16):Ir (U.alloc (.cells #[.int .u32 (d:Int)] 125)) (.slice (some ⟨U.heap.size,0,none⟩) 1 1) d:=by
 have hd:dlen d=1:=by
  have h1:=qN1 h;have h2:=qK3 (x:=d) (by omega)
  omega
 refine⟨_,1,by rw[hd],by rw[hd];omega,?_⟩
 rw[hd];refine yC7 (xB6 _) ?_ h;simp only[World.cell?,xM3];rfl
theorem yK (U:World):Ir (U.alloc (.cells #[.int .u32 10] 125)) (.slice (some ⟨U.heap.size,0,none⟩) 1 1) 10:=zW0 U 10 (by decide) (by decide)
theorem yL3 (w:World):Ir w (.slice none 0 0) 0:=⟨none,0,by rw[qQ5],by rw[qQ5];omega,0,0,fun h=>by rw[qQ5] at h;omega,fun i hi=>by rw[qQ5] at hi;omega⟩
theorem qA2 {D:List UInt8} (h:∀ j,j<D.length→dgB (bL D j)<10):∀ k,k≤D.length→dvP 10 D k<10^k
 | 0,_=>by simp[dvP]
 | k+1,hk=>by
  have h1:=qA2 h k (by omega)
  have h2:=h k (by omega)
  show dvP 10 D k*10+dgB (bL D k)<10^(k+1)
  rw[xP0];omega
theorem zC9 {x k:Nat} (h:x<10^k):dlen x≤k:=(qZ0 _ _).2 (xN3 h (Nat.pow_le_pow_left (by decide) _))
theorem yJ6 (L:List UInt8) (n:Nat) (w:World) (hn:Hid (n=L.length)) (hL:n≤2000) (hd:Hid (∀ j,j<n→48≤bL L j∧bL L j≤57)) :
  Calls Tryz.prog 149 #[.string ⟨L.toArray⟩] w fun r w'=>∃ A,r=.returned A∧DN w' A (un (dvP 10 L n:Nat) 0)∧Bw w w':=by
 obtain⟨R,hR⟩:∃ R:ByteArray,R=⟨L.toArray⟩:=⟨_,rfl⟩;have hRs:R.size=n:=by rw[hR,hn.out];rfl
 have hRg:∀ k (h:k<R.size),(R[k]'h).toNat=bL L k:=by subst hR;exact qP8 L
 have HR:Hid (R=⟨L.toArray⟩):=hR;rw[←hR];clear hR;have HRg:Hid (∀ k (h:k<R.size),(R[k]'h).toNat=bL L k):=hRg;clear hRg;have HQ:Hid (∀ j,j<n→dgB (bL L j)<10∧dgB (bL L j)=bL L j - 48):=(fun j hj=>by
  have:=hd.out j hj
  unfold dgB;constructor <;> (split <;> omega):∀ j,j<n→dgB (bL L j)<10∧dgB (bL L j)=bL L j - 48)
 obtain⟨W,hW⟩:∃ W,W=w.alloc (.cells #[.bool false,.slice none 0 0,.int .i64 0] 69):=⟨_,rfl⟩;have HW:Hid (Bw w W∧W.heap[w.heap.size]?=some (.cells #[.bool false,.slice none 0 0,.int .i64 0] 69 (0,0))):=⟨by rw[hW];exact(xB7 _ _).alloc (xB6 _) _,by rw[hW];exact xM3 _ _⟩
 go_enter Tryz.func149,Tryz.ntmps149
 go_wp2_with fail;rw[←hW];clear hW
 go_loopw [3,4] (fun v x wr=>∃ i:Nat,i≤n∧x=.int .i64 (i:Nat)∧Ir wr v (dvP 10 L i)∧Bw W wr) (fun _ x _=>n - (intOf x).toNat)
 case atStart=>exact⟨0,xM0 _,rfl,yL3 W,xB7 _ _⟩
 case round =>
  obtain⟨i,hi,rfl,HV,HB0⟩:=hrel;have HB:Hid (Bw W wr):=HB0;clear HB0;have HVV:Hid (Ir wr _ (dvP 10 L i)):=HV;clear HV;have hxl:dvP 10 L i<10^i:=qA2 (fun j hj=>(HQ.out j (by have:=hn.out;omega)).1) i (by have:=hn.out;omega)
  have hx1:=zC9 hxl;have hx2:dlen (dvP 10 L i*10)≤i+1:=zC9 (by rw[xP0];omega)
  obtain⟨x,hX⟩:∃ x,x=dvP 10 L i:=⟨_,rfl⟩;rw[←hX] at HVV hx1 hx2;have HX:Hid (x=dvP 10 L i):=hX;clear hX hxl;obtain⟨ao,cap,rfl,hcap,hAt⟩:=HVV.out;clear HVV;by_cases hin:i<n
  ·have hii:(i:Int)<(n:Int):=by omega
   have hiR:i<R.size:=by omega
   obtain⟨c,hc⟩:∃ c,c=bL L i:=⟨_,rfl⟩;have hRc:(R[i]'hiR).toNat=c:=by rw[hc];exact HRg.out i hiR
   have h1:=HQ.out i hin;have h2:=hd.out i hin;obtain⟨d,hdd⟩:∃ d,d=dgB (bL L i):=⟨_,rfl⟩;rw[←hdd,←hc] at h1;rw[←hc] at h2;have hdl:d<16:=by omega
   have hw2:IntKind.u8.wrap ((c:Int) - 48)=(d:Int):=by rw[IntKind.wrap_u8];omega
   have HD:Hid (d=dgB (bL L i)):=hdd;clear hdd hc
   go_upto_region 5 with fail;refine qR8 qX4 11 11 [[],[],[0,1],[],[],[3,4],[5],[6],[7],[8],[2,9]] wr _ [isV (.slice ao (dlen x) cap),fun w u=>Ir w u 10,fun w u=>Ir w u (x*10),isV (.string R),isV (.int .i64 (i:Nat)),isV (.int .u8 (c:Nat)),isV (.int .u8 (d:Nat)),isV (.int .u32 (d:Nat)),fun w u=>∃ g,u=.slice (some ⟨g,0,none⟩) 1 1∧w.cell? ⟨g,0,none⟩=some (.int .u32 (d:Int)),fun w u=>Ir w u d,fun w u=>Ir w u (x*10+d)] (by kernel_rfl) ⟨qQ1 _,qR3 10,qR3 (x*10),qQ1 _,qQ1 _,qQ1 _,qQ1 _,qQ1 _,zK7 d,qR3 d,qR3 (x*10+d),trivial⟩ (by show 22≤24;decide) ?_ ?_
   ·intro j hj o ho act U hb hoth hdep;have hj':j<11:=hj;have t3':act.tmps[(3:Nat)]?=some (Value.slice ao (dlen x) cap):=(hoth 3 (by omega)).trans rfl
    have t0':act.tmps[(0:Nat)]?=some (Value.string R):=(hoth 0 (by omega)).trans rfl
    have t4':act.tmps[(4:Nat)]?=some (Value.int .i64 (i:Nat)):=(hoth 4 (by omega)).trans rfl
    rcases(by omega:j=0∨j=1∨j=2∨j=3∨j=4∨j=5∨j=6∨j=7∨j=8∨j=9∨j=10)with rfl|rfl|rfl|rfl|rfl|rfl|rfl|rfl|rfl|rfl|rfl
    ·obtain rfl:=xB8 ho;exact qZ6 rfl t3' ⟨_,rfl,rfl,xB7 _ _⟩
    ·obtain rfl:=xB8 ho;refine qZ4 (w':=U.alloc (.cells #[.int .u32 (10:Int)] 125)) (v:=.slice (some ⟨U.heap.size,0,none⟩) 1 1) (by simp[execOp,eval_cst,zU6 (10:Int) U]) ⟨_,rfl,yK U,(xB7 _ _).alloc (xB6 _) _⟩
    ·obtain rfl:=xB8 ho;have y0:act.tmps[(11:Nat)]?=_:=dV (hdep 0 (by simp[dL])) rfl
     obtain⟨u1,y10,v1⟩:=hdep 1 (by simp[dL])
     have y1:act.tmps[(12:Nat)]?=_:=y10;refine qQ9 rfl (qZ5 Tryz.func113 (by kernel_rfl) (by kernel_rfl)) (vs:=#[.slice ao (dlen x) cap,u1]) (by simp[qZ y0,qZ y1]) ?_
     refine(yO9 (x:=x) (y:=10) ((show Ir wr _ x from⟨ao,cap,rfl,hcap,hAt⟩).later hb) v1 (by omega) (xN5 (qN1 (by decide:10<16)) (by decide))).mono ?_
     rintro r w' ⟨v,rfl,hO,hb'⟩;exact⟨_,rfl,_,rfl,hO.is.ir,hb'⟩
    ·obtain rfl:=xB8 ho;exact qZ6 rfl t0' ⟨_,rfl,rfl,xB7 _ _⟩
    ·obtain rfl:=xB8 ho;exact qZ6 rfl t4' ⟨_,rfl,rfl,xB7 _ _⟩
    ·obtain rfl:=xB8 ho;have y3:act.tmps[(14:Nat)]?=_:=dV (hdep 3 (by simp[dL])) rfl
     have y4:act.tmps[(15:Nat)]?=_:=dV (hdep 4 (by simp[dL])) rfl
     exact qZ4 (w':=U) (v:=.int .u8 (c:Int)) (by simp[execOp,qZ y3,qZ y4,zS9 R i c (by omega) hRc U]) ⟨_,rfl,rfl,xB7 _ _⟩
    ·obtain rfl:=xB8 ho;have y5:act.tmps[(16:Nat)]?=_:=dV (hdep 5 (by simp[dL])) rfl
     exact qZ4 (w':=U) (v:=.int .u8 (d:Int)) (by simp[execOp,y5,go_sem,hw2]) ⟨_,rfl,rfl,xB7 _ _⟩
    ·obtain rfl:=xB8 ho;have y6:act.tmps[(17:Nat)]?=_:=dV (hdep 6 (by simp[dL])) rfl
     exact qZ4 (w':=U) (v:=.int .u32 (d:Int)) (by simp[execOp,qZ y6,yD5 d U (by omega)]) ⟨_,rfl,rfl,xB7 _ _⟩
    ·obtain rfl:=xB8 ho;have y7:act.tmps[(18:Nat)]?=_:=dV (hdep 7 (by simp[dL])) rfl
     refine qZ4 (w':=U.alloc (.cells #[.int .u32 (d:Int)] 125)) (v:=.slice (some ⟨U.heap.size,0,none⟩) 1 1) (by simp[execOp,qZ y7,eval_cst,zU6 (d:Int) U]) ⟨_,rfl,⟨_,rfl,?_⟩,(xB7 _ _).alloc (xB6 _) _⟩
     simp only[World.cell?,xM3];rfl
    ·obtain rfl:=xB8 ho;obtain⟨u8,y80,v8⟩:=hdep 8 (by simp[dL])
     have y8:act.tmps[(19:Nat)]?=_:=y80;obtain⟨g,rfl,hcl⟩:=v8;refine qQ9 rfl (qZ5 Tryz.func175 (by kernel_rfl) (by kernel_rfl)) (by simp[qZ y8];rfl) ?_
     refine(r40 (some ⟨g,0,none⟩) 1 1 d U (qN1 hdl) (by omega) (by omega) (yC7 (xB6 _) hcl hdl)).mono ?_
     rintro r w' ⟨rfl,rfl⟩;exact⟨_,rfl,_,rfl,⟨_,_,rfl,qN1 hdl,yC7 (qN1 hdl) hcl hdl⟩,xB7 _ _⟩
    ·obtain rfl:=xB8 ho;obtain⟨u2,y20,v2⟩:=hdep 2 (by simp[dL])
     have y2:act.tmps[(13:Nat)]?=_:=y20;obtain⟨u9,y90,v9⟩:=hdep 9 (by simp[dL])
     have y9:act.tmps[(20:Nat)]?=_:=y90;refine qQ9 rfl (qZ5 Tryz.func160 (by kernel_rfl) (by kernel_rfl)) (vs:=#[u2,u9]) (by simp[qZ y2,qZ y9]) ?_
     refine(rsum (x:=x*10) (y:=d) v2 v9 (by omega) (by have:=qN1 hdl;omega)).mono ?_
     rintro r w' ⟨v,rfl,hI,hb'⟩;exact⟨_,rfl,_,rfl,hI,hb'⟩
   ·intro o ho u W9 hb9 hu;have hop:o.op=.assign (.tmp 21):=by rw[←xB8 ho];rfl
    have hds:o.dst=some 3:=by rw[←xB8 ho];rfl
    clear ho;have u10:(fun w u=>Ir w u (x*10+d)) W9 (u 10):=hu 10 (by show 10<11;decide)
    clear hu;simp only[putL,show List.range 11 = [0,1,2,3,4,5,6,7,8,9,10] from rfl,List.length_cons,List.length_nil,List.getD_cons_zero,List.getD_cons_succ,List.map_cons,List.map_nil,List.cons_append,List.nil_append,List.foldl_cons,List.foldl_nil,Nat.reduceLT,Nat.reduceMod,Nat.reduceDiv,Nat.reduceMul,Nat.reduceAdd,Nat.reduceEqDiff,reduceIte,Nat.one_ne_zero,Act.put,List.setIfInBounds_toArray,List.set_cons_zero,List.set_cons_succ];refine qX0 (v:=u 10) hop rfl ?_;rw[hds];simp only[Act.put,List.setIfInBounds_toArray,List.set_cons_zero,List.set_cons_succ];have HF:Hid (Ir W9 (u 10) (x*10+d)∧Bw W W9):=⟨u10,HB.out.trans (hb9.mono HB.out.size)⟩;clear u10 hb9
    go_wp2_with fail;refine⟨⟨i+1,by omega,rfl,?_,HF.out.2⟩,by simp only[intOf];omega⟩
    show Ir W9 (u 10) (dvP 10 L i*10+(dgB (bL L i)))
    rw[←HX.out,←HD.out];exact HF.out.1
  ·obtain rfl:i=n:=by omega
   have hii:¬ (i:Int)<(i:Int):=by omega
   have k9:=zX1 (neg:=false) (v:=.slice ao (dlen x) cap) (x:=x) (e:=0) (w:=wr) ⟨ao,cap,rfl,hcap,hAt⟩ (by omega) (by omega)
   clear hAt hcap
   go_wp2_with fail;refine k9.mono ?_;rintro r w1 ⟨A,rfl,hA,hb1⟩;clear k9;have hD:DN w1 A (un ((x:Nat):Int) 0):=by
    have h9:=hA.dn;unfold un;rw[xB9 (by omega),xM7]
    exact h9
   obtain⟨s1,ao1,n1,cp1,e1,rfl⟩:=hD.shape;have hbx:=qQ HW.out.2 (HB.out.trans (hb1.mono HB.out.size)) (qQ6 HW.out.2);have HD9:Hid (DN w1 (.agg #[.bool s1,.slice ao1 n1 cp1,.int .i64 e1]) (un ((x:Nat):Int) 0)∧w1.heap[w.heap.size]?=some (.cells #[.bool false,.slice none 0 0,.int .i64 0] 69 (0,0))∧Bw w w1):=⟨hD,hbx,by
    have h1:=HB.out.trans (hb1.mono HB.out.size);exact HW.out.1.trans (h1.mono HW.out.1.size)⟩
   obtain⟨⟨c0,c1,c2⟩,f0,f1,f2⟩:=qQ2 hbx;clear hA hb1 hD hbx
   go_wp2_with fail;refine xM4 (xP7 rfl _ _ (w.heap.size) 69 #[.bool s1,.slice ao1 n1 cp1,.int .i64 e1] (0,0) _ rfl (qX2 _ _ _ HD9.out.2.1) Tryz.underlying69 rfl Tryz.info69) rfl ?_;exact⟨_,rfl,by rw[←HX.out];exact HD9.out.1.storeQ HD9.out.2.1 _ _ _,qQ3 HD9.out.2.2 (xB6 _) _ _ _⟩
end Go.Proofs.YtkcmhaknalomjaaGreatDoor
