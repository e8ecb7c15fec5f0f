/- Own work: contracts of the program's functions, part 16: DD6 DD7 DCX DCY DD8 DD9 DDA DDB DD3 DDC DDD. -/
import Derived.Test.YtfkaogdmlcdceaaGreatDoorA15
import Derived.Test.YtfkaogdmlcdceaaGreatDoorA14
import Derived.Test.YtfkaogdmlcdceaaGreatDoorA12
import Derived.Test.YtfkaogdmlcdceaaGreatDoorA11
import Derived.Lib.ItoaLen

set_option maxHeartbeats 16000000
set_option maxRecDepth 200000
set_option linter.unusedVariables false
set_option linter.unusedSimpArgs false
namespace Go.Proofs.YtfkaogdmlcdceaaGreatDoor
open Go Go.RowKit Go.Fl64
attribute [local go_sem] iV Nu
def uN (a:Nat) (pl m:Int):Nat:=(unR (sZ a) (tnO pl) (tnU pl) m).natAbs
theorem qF2:bU=2200:=rfl
theorem dk1:bU+dB+kP≤60000:=by have J:=qN5;have Y:=qF2;have u:=qA7;generalize kP=x at *; generalize bU=y at *; generalize dB=z at *; omega
theorem dk2:bU+dB+dB+2000≤60000:=by have J:=qN5;have Y:=qF2;have u:=qA7;generalize kP=x at *; generalize bU=y at *; generalize dB=z at *; omega
theorem dk3:bU+dB+1<60000:=by have J:=qN5;have Y:=qF2;have u:=qA7;generalize kP=x at *; generalize bU=y at *; generalize dB=z at *; omega
theorem dk4:bU+dB+2≤60000:=by have J:=qN5;have Y:=qF2;have u:=qA7;generalize kP=x at *; generalize bU=y at *; generalize dB=z at *; omega
theorem zO7 {pl:Int} (Y : -7500≤pl) (u:pl≤7500):tnO pl<2^dB∧tnU pl<2^dB∧0<tnU pl∧0<tnO pl:=by
 unfold tnO tnU;exact⟨zJ3 ω,zJ3 ω,kH1 δ,kH1 δ⟩
theorem yE2 {a:Nat} {pl m:Int} (J : -7500≤pl) (Y:pl≤7500):(unR (sZ a) (tnO pl) (tnU pl) m).natAbs<2^(bU+dB+2)∧(unF (sZ a) (tnO pl) (tnU pl)+1).natAbs<2^(bU+dB+2):=by
 obtain⟨u,V,t3,t4⟩:=zO7 J Y;have F:=zD0 (Z:=sZ a) (qP4 a) u t3;have H:1<2^(bU+dB+1):=Nat.one_lt_two_pow ω;rw[kN5];unfold unR;constructor
 ·split <;> omega
 ·omega
theorem xZ0 {a:Nat} {pl m:Int} {w:World} (J:Tab32 w) (hI:Ie.Tab w) (ha:a<18446744073709551616) (hf:mag a<9218868437227405312) (C : -7500≤pl) (L:pl≤7500) (hm:1≤m∧m≤3) :
  Ca 34 #[.float .f64 a,iV pl,iV m] w fun r w'=>OutA w (un ((uN a pl m:Nat):Int) 0) r w':=by
 obtain⟨H,t2,t3,t4⟩:=zO7 C L;have hd:=qA7;have hF:=zD0 (Z:=sZ a) (qP4 a) H t3;obtain⟨hR,qJ⟩:=yE2 (a:=a) (m:=m) C L;refine yW1 a pl m (un ((tnO pl:Nat):Int) 0) (un ((tnU pl:Nat):Int) 0) (un (sZ a) kP) (un (unF (sZ a) (tnO pl) (tnU pl)) 0) (un 1 0) (un (unF (sZ a) (tnO pl) (tnU pl)+1) 0) _ (unX (sZ a) (tnO pl) (tnU pl)) (unA (sZ a) (tnO pl) (tnU pl)) (unP (sZ a) (tnO pl) (tnU pl) m) w ?_ ?_ ?_ ?_ ?_ ?_ ?_ (by show m=1∨m=2∨m=3;omega) rfl
 ·intro W u;exact zZ0 (J.later u) (Tab.later hI u) ha hf
 ·intro W u;exact zL0 (J.later u) C L (fun n hn=>klen hn)
 ·intro s1 qK n1 qZ e1 s2 qX n2 qQ e2 s3 qY n3 I e3 W u T D F;exact zL3 (Z:=sZ a) (O:=tnO pl) (U:=tnU pl) (p:=kP) (k:=bU) (l:=dB) (J.later u) ⟨_,_,_,_,_,_,_,_,_,_,rfl,T,D⟩ F (qP4 a) H t2 t3 dk1
 ·intro s1 qK n1 qZ e1 s2 qX n2 qQ e2 s3 qY n3 I e3 s4 qU n4 qV e4 W u T D F q4;exact kU2 (Z:=sZ a) (O:=tnO pl) (U:=tnU pl) (k:=bU) (l:=dB) (J.later u) ⟨_,_,_,_,_,_,_,_,_,_,rfl,T,D⟩ F q4 (qP4 a) H t2 t3 dk2
 ·intro W u;exact qM4 (n:=1) (J.later u) ω
 ·intro W X Y u V hY;exact qM1 (qE7 (p:=0) (k:=bU+dB+1) hF (by have:1<2^(bU+dB+1):=Nat.one_lt_two_pow ω;omega) dk3 ω) (J.later u) V hY
 ·intro W X u V;have e:(if unP (sZ a) (tnO pl) (tnU pl) m=true then un (unF (sZ a) (tnO pl) (tnU pl)+1) 0 else un (unF (sZ a) (tnO pl) (tnU pl)) 0)=un (unR (sZ a) (tnO pl) (tnU pl) m) 0:=by unfold unR;split <;> rfl
  rw[e] at V;exact xV2 hR dk4 V
def eiF:Nat→Nat→Nat
 | 0,_=>0
 | f+1,N=>if N=0 then 0 else eiF f (N / 10^18)+1
def eiN (N:Nat):Nat:=eiF N N
theorem zY3:∀ (f N:Nat),N≤f→N<10^(18*eiF f N)∧(∀ k,k<eiF f N→N / 10^(18*k)≠0)∧eiF f N≤N:=by
 intro f;induction f with
 | zero =>
  intro N h;obtain rfl:N=0:=ω;exact⟨δ,fun k u=>absurd u (Nat.not_lt_zero _),kH8 _⟩
 | succ f ih =>
  intro N h;unfold eiF;by_cases Y:N=0
  ·rw[kU6 Y,Y];exact⟨δ,fun k u=>absurd u (Nat.not_lt_zero _),kH8 _⟩
  ·rw[kU5 Y];have J:N / 10^18<N:=Nat.div_lt_self ω δ;obtain⟨a,b,c⟩:=ih (N / 10^18) ω;refine⟨?_,?_,ω⟩
   ·rw[Nat.mul_succ,kN3];exact(kM6 δ).1 a
   ·intro k u;cases k with
    | zero=>simpa using Y
    | succ k =>
     rw[Nat.mul_succ,kN3,kN4,←kN0];exact b k ω
def dcT (N:Nat):List UInt8:=Lib.trimLeftB (wtL N (eiN N)) 48
theorem yO4 {N b:Nat} (h:N<2^b):eiN N≤b / 59+1:=by
 obtain⟨-,u,-⟩:=zY3 N N lR;rcases Nat.lt_or_ge (b / 59+1) (eiN N)with h9|h9
 ·exfalso;refine u (b / 59+1) h9 (Nat.div_eq_of_lt (kF6 h ?_));have Y:(2:Nat)^b≤2^(59*(b / 59+1)):=kF4 δ ω;have e2:(2:Nat)^(59*(b / 59+1))≤10^(18*(b / 59+1)):=by
   rw[Nat.pow_mul,Nat.pow_mul];exact Nat.pow_le_pow_left δ _
  exact kF8 Y e2
 ·exact h9
theorem qW1 {N b:Nat} {X:Value} {w:World} (L:Tab32 w) (T:N<2^b) (hb:b≤59000) (u:PN w X (un ((N:Nat):Int) 0)) :
  Ca 33 #[X] w (Rq w (.string ⟨(dcT N).toArray⟩)):=by
 obtain⟨s1,qY,n1,qZ,e1,rfl⟩:=u.shape;obtain⟨q1,q2,q3⟩:=zY3 N N lR;have qX:=yO4 T;have D:(10:Nat)^18<2^60:=by decide
 refine zH0 s1 qY n1 qZ e1 N (eiN N) (un ((10^18:Nat):Int) 0) ⟨(dcT N).toArray⟩ w u q1 (by show eiN N≤100000;omega) q2 ?_ ?_ ?_ ?_ ?_ ?_
 ·intro W J;exact zL2 (bs:=10) (n:=18) (b:=60) (L.later J) ω ω ω D ω (fun V=>c156 18 ω V)
 ·intro W X Y J u F;have:=qE5 (b:=b) (nabs (kF7 F T)) ω ω u
  refine this.mono ?_;rintro r w' ⟨rfl,H⟩;refine⟨?_,H⟩
  by_cases h:Y=0
  ·rw[kU6 h,kU6 ω]
  ·rw[kU5 h,kU5 ω,kU5 ω]
 ·intro W X S Y J u I F;have C:=qM6 60 (kF7 F T);have qQ:(10:Nat)^18<2^(b+60):=by rw[kH5];exact qM6 b D
  refine(yX8 (p:=0) C qQ δ ω ω (L.later J) u I).mono ?_
  rintro r w' ⟨s,ao,n,cap,e,rfl,hp,H⟩;exact⟨s,ao,n,cap,e,_,rfl,hp,H⟩
 ·intro W X S Y J u I F;have:=qV6 (p:=0) (q:=0) (k:=b) (l:=60) (nabs (kF7 F T)) (nabs D) ω ω (L.later J) u I
  rw[←kN8] at this;exact this
 ·intro W X Z' Y J u hZ F;have:=yF7 (psubN (p:=0) (k:=b) (b:=Y / 10^18*10^18) (kF7 F T) (kM9 _ _) ω ω) (L.later J) u hZ
  rw[show Y - Y / 10^18*10^18=Y % 10^18 by have:=Nat.div_add_mod Y (10^18);omega] at this
  exact this
 ·intro W;have:=Tryz.strings_TrimLeft_one ⟨(wtL N (eiN N)).toArray⟩ 48 δ W
  refine this.mono ?_;rintro r w' ⟨rfl,rfl⟩;exact⟨rfl,kH9 _ _⟩
theorem zW8 (n:Nat) (c:UInt8):Lib.repeatL [c] n=List.replicate n c:=by
 induction n with
 | zero=>rfl
 | succ n ih=>rw[Lib.repeatL,ih,List.replicate_succ];rfl
theorem knz (w:World):KNz w:=by
 intro n W u J;refine yC1 n W u (fun V=>?_);have h:=Tryz.strings_Repeat ⟨#[48]⟩ n.toNat V ω (by show 1*n.toNat≤_;omega)
 have Y:max 0 n=(n.toNat:Int):=ω;rw[Y];have e2:=zW8 n.toNat 48;rw[e2] at h;exact h
theorem xM8 {n:Int} {w:World} (J : -100000≤n∧n≤100000) (u:Tab10 w):Ca 79 #[iV n] w (Rq w (.string ⟨(Lib.itoa n).toArray⟩)):=by
 refine(Tryz.strconv_Itoa n ω ω w u).mono ?_
 rintro r w' ⟨rfl,k,Y,rfl⟩;exact⟨rfl,zE6 w k Y⟩
theorem qL7 {a:Nat} (J:mag a<9218868437227405312):¬ cls a=1∧¬ cls a=2∧cneg a=neg a:=by
 have u:¬ (9218868437227405312:Int)<(mag a:Int):=ω;have Y:((mag a:Int)==9218868437227405312)=false:=by rw[kN2];omega
 unfold cls cneg;rw[kU5 u,kU5 u,Y];refine⟨?_,?_,rfl⟩
 ·repeat' split
  all_goals first|omega|contradiction
 ·repeat' split
  all_goals first|omega|contradiction
theorem zO3 (L:List UInt8) (c:UInt8):(Lib.trimLeftB L c).length≤L.length:=by
 unfold Lib.trimLeftB;exact(List.dropWhile_sublist _).length_le
theorem zN4 {N b:Nat} (h:N<2^b):(dcT N).length≤18*(b / 59+1):=by
 have u:=zO3 (wtL N (eiN N)) 48;rw[zH6] at u;have:=yO4 h
 unfold dcT;omega
theorem qP5 (n:Int):(nzL n).length=n.toNat:=by unfold nzL;simp
theorem zS6 {d:List UInt8} {p:Int}:(ptL d p).length≤d.length+p.natAbs+2:=by
 unfold ptL;split
 ·rw[kM0,kM0,qP5,qP5];omega
 ·simp only[];rw[kM0,kG2,List.length_take,List.length_drop,kM0,qP5];omega
theorem yN6 {a:Nat} {pl m:Int} (Y : -7500≤pl) (u:pl≤7500):uN a pl m<2^(bU+dB+2):=(yE2 Y u).1
theorem dk5:18*((bU+dB+2) / 59+1)≤9000:=by have Y:=qF2;have u:=qA7;generalize bU=y at *; generalize dB=z at *; omega
theorem dk6:bU+dB+2≤59000:=by have Y:=qF2;have u:=qA7;generalize bU=y at *; generalize dB=z at *; omega
theorem yV6 {a:Nat} {pl m:Int} (Y : -7500≤pl) (u:pl≤7500):(dcT (uN a pl m)).length≤9000:=kF8 (zN4 (yN6 Y u)) dk5
theorem kU4 {a:Nat} {pl m:Int} {w:World} (T:Tab32 w) (C:Ie.Tab w) (D:a<18446744073709551616) (F:mag a<9218868437227405312) (h1:0≤pl) (h2:pl≤1100) (H:1≤m∧m≤3) :
  Ca 50 #[.float .f64 a,iV pl,iV m] w fun r w'=>r=.returned (.tuple #[.string ⟨(sgL (neg a) (ptL (dcT (uN a pl m)) pl)).toArray⟩,iV 0])∧Bw w w':=by
 have k0:=yB1 m;rw[kF2 H] at k0;obtain⟨c1,c2,c3⟩:=qL7 F;have hl:=yV6 (a:=a) (m:=m) (pl:=pl) ω ω;have hp:=zS6 (d:=dcT (uN a pl m)) (p:=pl);refine yC9 a pl m _ w ω ω k0 ?_;intro W g1 g2 I Y b1 b2 b3;have J:=fun V=>Ie.c9 a D V;rw[c3] at J;refine qB2 a _ _ (neg a) _ _ W c1 c2 ω J (qZ4 Tryz.func115 (by kernel_rfl) (by kernel_rfl)) ?_
 refine yB7 a pl m (un ((uN a pl m:Nat):Int) 0) (dcT (uN a pl m)) _ g1 g2 I W b1 b2 b3 ?_ ?_ ?_
 ·intro V u;exact xZ0 ((T.later Y).later u) (Tab.later (Tab.later C Y) u) D F ω ω H
 ·intro V X u L;exact qW1 ((T.later Y).later u) (yN6 ω ω) dk6 L
 ·intro V u;exact qC6 ω ω (knz V)
def exP (a:Nat):Int:=max 0 (-(un (sZ a) kP).2.2)
theorem xO9 (a:Nat) : -1100≤(un (sZ a) kP).2.2∧(un (sZ a) kP).2.2≤2200:=by
 have h:=un_e (Z:=sZ a) (p:=kP) (qP4 a);have J:=qN5;have Y:=qF2;generalize (un (sZ a) kP).2.2=e at *;generalize kP=x at *;have u:=h.2.1;generalize bU=y at *;omega
theorem xZ2 {a:Nat} {w:World} (F:Tab32 w) (T:Ie.Tab w) (H:a<18446744073709551616) (J:mag a<9218868437227405312) :
  Ca 9 #[.float .f64 a] w fun r w'=>r=.returned (.string ⟨(sgL (neg a) (ptL (dcT (uN a (exP a) 2)) (exP a))).toArray⟩)∧Bw w w':=by
 obtain⟨c1,c2,I⟩:=qL7 J;have hb:=xO9 a;have he:0≤exP a∧exP a≤1100:=by unfold exP;omega
 have hl:=yV6 (a:=a) (m:=2) (pl:=exP a) ω ω;have hp:=zS6 (d:=dcT (uN a (exP a) 2)) (p:=exP a);refine zK7 a _ w ?_;intro W C Y b1;have D:=fun V=>Ie.c9 a H V;rw[I] at D;refine qB2 a _ _ (neg a) _ _ W c1 c2 ω D (qZ4 Tryz.func31 (by kernel_rfl) (by kernel_rfl)) ?_
 refine yB8 a (un (sZ a) kP) (un ((uN a (exP a) 2:Nat):Int) 0) (exP a) (dcT (uN a (exP a) 2)) _ C W b1 rfl (by show -100000≤_∧_≤100000;omega) ?_ ?_ ?_ ?_
 ·intro V u;exact zZ0 ((F.later Y).later u) (Tab.later (Tab.later T Y) u) H J
 ·intro V u;exact xZ0 ((F.later Y).later u) (Tab.later (Tab.later T Y) u) H J ω ω ω
 ·intro V X u L;exact qW1 ((F.later Y).later u) (yN6 ω ω) dk6 L
 ·intro V u;exact qC6 ω ω (knz V)
theorem kU0 {x:Nat} (hx:x<18446744073709551616) (w:World):Ca 108 #[.int .u64 x] w fun e w'=>e=.returned (iV (bl x:Nat))∧w'=w:=c181 x hx w
def hxB (m:Nat):Nat:=m*2^(65 - bl m) % 18446744073709551616
def hxJ:Nat→Nat→Nat
 | 0,_=>0
 | f+1,u=>if u<16 then 0 else hxJ f (u / 16)+1
theorem qC4:∀ f u,u<16^(f+1)→u / 16^hxJ f u<16∧(hxJ f u=0∨16≤u / 16^(hxJ f u - 1))∧hxJ f u≤f:=by
 intro f;induction f with
 | zero=>intro u h;exact⟨by show u / 16^0<16;simpa using h,.inl rfl,kH8 _⟩
 | succ f ih =>
  intro u h;unfold hxJ;by_cases J:u<16
  ·rw[kU6 J];exact⟨by simpa using J,.inl rfl,ω⟩
  ·rw[kU5 J];have Y:u / 16<16^(f+1):=by rw[kM6 δ];rw[kN5] at h;exact h
   obtain⟨a,b,c⟩:=ih (u / 16) Y;refine⟨?_,.inr ?_,ω⟩
   ·rw[kN5,kN4,←kN0];exact a
   ·rw[kM5];rcases b with b|b
    ·rw[b,kN7,Nat.div_one];omega
    ·by_cases V:hxJ f (u / 16)=0
     ·rw[V,kN7,Nat.div_one];omega
     ·obtain⟨k,H⟩:∃ k,hxJ f (u / 16)=k+1:=⟨hxJ f (u / 16) - 1,ω⟩;rw[H] at b ⊢;rw[kM5] at b;rw[kN5,kN4,←kN0];exact b
theorem xH0 {u i j:Nat} (D:u / 16^i<16) (F:i=0∨16≤u / 16^(i - 1)) (L:u / 16^j<16) (T:j=0∨16≤u / 16^(j - 1)):i=j:=by
 have Y:∀ {a b:Nat},u / 16^a<16→(b=0∨16≤u / 16^(b - 1))→b≤a:=by
  intro a b W J;rcases J with rfl|J
  ·omega
  ·refine Nat.le_of_not_lt fun V=>?_;have H:16^a≤16^(b - 1):=kF4 δ ω;have C:u / 16^(b - 1)≤u / 16^a:=Nat.div_le_div_left H (kH1 δ);omega
 have:=Y D T
 have:=Y L F
 omega
def hxD (u:Nat):List UInt8:=hexL u (hxJ 15 u)
def hxC (m:Nat):List UInt8:=Lib.trimRightB (nzL (16 - (hxD (hxB m)).length)++hxD (hxB m)) 48
theorem zP6 {u:Nat} {w:World} (V:Ie.Tab w) (Y:u<18446744073709551616):Ca 109 #[.int .u64 u,iV 16] w (Rq w (.string ⟨(hxD u).toArray⟩)):=by
 refine(c81q u w V Y).mono ?_
 rintro r w' ⟨j,F,H,rfl,J⟩;obtain⟨a,b,c⟩:=qC4 15 u (by rw[show(16:Nat)^(15+1)=18446744073709551616 from by decide];exact Y)
 rw[xH0 F H a b];exact⟨rfl,J⟩
theorem yC3 {m:Nat} {e:Int} {w:World} (T:Ie.Tab w) (V:Tab10 w) (H:m<18446744073709551616) (F:m≠0) (C : -2000≤e∧e≤2000) :
  Ca 43 #[.int .u64 m,iV e] w (Rq w (.string ⟨(hxL (bl m) (hxC m) (Lib.itoa (e+bl m - 1))).toArray⟩)):=by
 have J:bl m≤64:=(qJ4 m 64).2 (by rw[show(2:Nat)^64=18446744073709551616 from by decide];exact H)
 have Y:(hxD (hxB m)).length≤16:=by
  unfold hxD;rw[qH3];have:=(qC4 15 (hxB m) (by rw[show(16:Nat)^(15+1)=18446744073709551616 from by decide];exact kB3 _ δ)).2.2
  omega
 have u:(hxC m).length≤16:=by
  unfold hxC Lib.trimRightB;rw[List.length_reverse];refine kF8 (List.dropWhile_sublist _).length_le ?_;rw[List.length_reverse,kM0,qP5];omega
 refine zA3 m (bl m) e (hxD (hxB m)) (hxC m) (Lib.itoa (e+bl m - 1)) w J ω Y u ?_ (fun W=>kU0 H W) ?_ (knz w) ?_ ?_
 ·have:=Lib.itoa_length_le (e+bl m - 1) ω ω
  show(Lib.itoa (e+bl m - 1)).length≤100
  omega
 ·intro I;have L:IntKind.u64.wrap ((m:Int)*2^(65 - bl m))=((hxB m:Nat):Int):=by
   have e2:(m:Int)*2^(65 - bl m)=((m*2^(65 - bl m):Nat):Int):=by simp
   rw[e2,kB6];unfold hxB;omega
  rw[L];exact zP6 T (kB3 _ δ)
 ·intro W;have:=Tryz.strings_TrimRight_one ⟨(nzL (16 - (hxD (hxB m)).length)++hxD (hxB m)).toArray⟩ 48 δ W (by show(nzL (16 - (hxD (hxB m)).length)++hxD (hxB m)).length≤_;rw[kM0,qP5];omega)
  refine this.mono ?_;rintro r w' ⟨rfl,rfl⟩;exact⟨rfl,kH9 _ _⟩
 ·intro W D;exact xM8 ω (V.later D)
def hxT (a:Nat):List UInt8:=if(Ie.sM a).toNat=0 then [48,120,48,112,48] else hxL (bl (Ie.sM a).toNat) (hxC (Ie.sM a).toNat) (Lib.itoa (Ie.sE a+bl (Ie.sM a).toNat - 1))
theorem sE_b {a:Nat} (F:a<18446744073709551616) (Y:mag a<9218868437227405312) : -1100≤Ie.sE a∧Ie.sE a≤1100:=by
 have J:=qW6 a Y;unfold Ie.sE;split
 ·omega
 ·split
  ·omega
  ·rename_i h1 h2
   have u:=Ie.mant_ne h2;have H:=Ie.mant_bound a;obtain⟨_,V⟩:=Lib.lowest_bit 64 (Ie.mant a) u ω;omega
theorem DHex {a:Nat} {w:World} (hI:Ie.Tab w) (T:Tab10 w) (J:a<18446744073709551616) (C:mag a<9218868437227405312) :
  Ca 11 #[.float .f64 a] w (Rq w (.string ⟨(sgL (neg a) (hxT a)).toArray⟩)):=by
 obtain⟨c1,c2,c3⟩:=qL7 C;obtain⟨m,Y,u⟩:=xY6 a J;have hE:=sE_b J C;have qQ:bl m≤64:=(qJ4 m 64).2 (by rw[show(2:Nat)^64=18446744073709551616 from by decide];exact u)
 have F:(hxC m).length≤16:=by
  unfold hxC Lib.trimRightB;rw[List.length_reverse];refine kF8 (List.dropWhile_sublist _).length_le ?_;rw[List.length_reverse,kM0,qP5];have:(hxD (hxB m)).length≤16:=by
   unfold hxD;rw[qH3];have:=(qC4 15 (hxB m) (by rw[show(16:Nat)^(15+1)=18446744073709551616 from by decide];exact kB3 _ δ)).2.2
   omega
  omega
 unfold hxT;rw[Y,kN9];refine yB6 a _ w ?_;intro W g1 D b1;have L:=fun V=>Ie.c9 a J V;rw[c3] at L;refine qB2 a _ _ (neg a) _ _ W c1 c2 ?_ L (qZ4 Tryz.func41 (by kernel_rfl) (by kernel_rfl)) ?_
 ·split
  ·decide
  ·have:=Lib.itoa_length_le (Ie.sE a+bl m - 1) ω ω
   unfold hxL;rw[kM0,kM0,kG2];split
   ·rw[kG2];simp;omega
   ·simp;omega
 ·refine xP0 a m (Ie.sE a) (.bool (Ie.sN a)) (.bool (Ie.sO a)) _ g1 W b1 ?_ ?_ ?_
  ·have h:=Ie.c22 a J W (Tab.later hI D);rw[Y] at h;refine h.mono ?_;rintro r w' ⟨rfl,n,rfl⟩;exact⟨rfl,qH9 bR n⟩
  ·intro H V I;rw[kU5 H];exact yC3 (Tab.later (Tab.later hI D) I) ((T.later D).later I) u H ω
  ·intro H;rw[kU6 H]
end Go.Proofs.YtfkaogdmlcdceaaGreatDoor
namespace Go.Proofs.YtfkaogdmlcdceaaGreatDoor
open Go.RowKit Go.Fl64
attribute [local go_sem] iV Nu
theorem xV3 {Q:Exit→Act→World→Prop} {o:Oper} {K:Act→World→Prop} {a:Act} {w:World} {s:Tmp} {g:Nat} {a0 F a2 H V J:Value} (Y:o.op=.load 104 (.tmp s)) (D:a.tmps[s]?=some (.pointer (some ⟨g,0,none⟩))) (u:(Instr.loadAt 104 (.pointer (some ⟨g,0,none⟩))).run Tryz.prog w=.ok (.agg #[a0,F,a2,H,V,J]) w) (h:K (a.put o.dst (.agg #[a0,F,a2,H,V,J])) w):o.wp Tryz.prog a w K Q :=
 qZ6 (w':=w) (by simp[execOp,Y,qZ1 D,u]) h
theorem yF8 (f fp fu:Nat) (L:Bool) (F:Option Addr) (I V:Nat) (e1:Int) (s2:Bool) (H:Option Addr) (C J:Nat) (e2:Int) (t1 t2 ta tp tq tl tu tv th tn tm:Bool×Nat×Int) (b1 b2 r1 r2:Bool) (N M LS MS:Nat) (w:World) (zN:Hid (LS=if b1&&r1 then N else N+1)) (zH:Hid (MS=if b2 && !r2 then M - 1 else M)) (h1:PN w (.agg (Nu L F I V e1)) t1) (h2:PN w (.agg (Nu s2 H C J e2)) t2) (hN:N<9223372036854775808) (hM:M<9223372036854775808) (zR:Hid (0<M))
  (k1:Hid (∀ W,Bw w W→Ca 32 #[.float .f64 f] W fun r w'=>OutA W ta r w'))
  (k2:Hid (∀ W,Ca 201 #[.float .f64 f] W (Rq W (.float .f64 fp))))
  (k3:Hid (∀ W,Bw w W→Ca 32 #[.float .f64 fp] W fun r w'=>OutA W tp r w'))
  (k4:Hid (∀ W X Y,Bw w W→PN W X tp→PN W Y ta→Ca 98 #[X,Y] W fun r w'=>OutA W tq r w'))
  (k5:Hid (∀ W X,Bw w W→PN W X tq→Ca 140 #[X,iV (-1)] W fun r w'=>OutA W tl r w'))
  (k6:Hid (∀ W,Ca 202 #[.float .f64 f] W (Rq W (.float .f64 fu))))
  (k7:Hid (∀ W,Bw w W→Ca 32 #[.float .f64 fu] W fun r w'=>OutA W tu r w'))
  (k8:Hid (∀ W X,Bw w W→PN W X tu→Ca 140 #[X,iV (-1)] W fun r w'=>OutA W tv r w'))
  (k9:Hid (∀ W X Y,Bw w W→PN W X ta→PN W Y tv→Ca 98 #[X,Y] W fun r w'=>OutA W th r w'))
  (kA:Hid (∀ W X,Bw w W→PN W (.agg (Nu L F I V e1)) t1→PN W (.agg (Nu s2 H C J e2)) t2→PN W X tl→Ca 96 #[.agg #[.bool L,.slice F I V,iV e1,.bool s2,.slice H C J,iV e2],X] W fun r w'=>zG9 W tn b1 r w'))
  (kB:Hid (∀ W X,Bw w W→PN W X tn→Ca 92 #[X] W (Rq W (.int .u64 (N:Nat)))))
  (kC:Hid (b1=true→∀ W X,Bw w W→PN W X tl→Ca 203 #[X,.float .f64 f] W (Rq W (.bool r1))))
  (kD:Hid (∀ W X,Bw w W→PN W (.agg (Nu L F I V e1)) t1→PN W (.agg (Nu s2 H C J e2)) t2→PN W X th→Ca 96 #[.agg #[.bool L,.slice F I V,iV e1,.bool s2,.slice H C J,iV e2],X] W fun r w'=>zG9 W tm b2 r w'))
  (kE:Hid (∀ W X,Bw w W→PN W X tm→Ca 92 #[X] W (Rq W (.int .u64 (M:Nat)))))
  (kF:Hid (b2=true→∀ W X,Bw w W→PN W X th→Ca 203 #[X,.float .f64 f] W (Rq W (.bool r2)))) :
  Ca 139 #[.float .f64 f,.agg #[.bool L,.slice F I V,iV e1,.bool s2,.slice H C J,iV e2]] w (Rq w (.tuple #[.int .u64 (LS:Nat),.int .u64 (MS:Nat)])):=by
 obtain⟨W,hW⟩:=eE (w.alloc (.cells #[.bool L,.slice F I V,iV e1,.bool s2,.slice H C J,iV e2] 104));have H0:Hid (Hx W w.heap.size #[.bool L,.slice F I V,iV e1,.bool s2,.slice H C J,iV e2] 104∧PN W (.agg (Nu L F I V e1)) t1∧PN W (.agg (Nu s2 H C J e2)) t2∧Bw w W):=(by
  have hb:Bw w W:=by rw[hW];exact bR.alloc lR _
  exact⟨by rw[hW];exact kB7 _ _,h1.later hb,h2.later hb,hb⟩:_∧_)
 have kk:=k1.out W H0.out.2.2.2;clear k1 h1 h2
 go_enter Tryz.func139,Tryz.ntmps139
 go_upto_region 1 with fail;rw[←hW];clear hW
 go_wp2_with fail;refine kk.mono ?_;rintro r w1 ⟨s3,qW,n3,qL,e3,rfl,hA,zU⟩;clear kk;obtain⟨W1,zQ⟩:=eE (w1.alloc (.cells (Nu s3 qW n3 qL e3) 50));have qZ:Bw w1 W1:=by rw[zQ];exact bR.alloc lR _
 have n6:Hn W1 w1.heap.size s3 qW n3 qL e3 50:=by rw[zQ];exact kB7 _ _
 have qJ:Bw W W1:=zU.trans (qZ.mono zU.size)
 go_upto_region 2 with fail;rw[←zQ];clear zQ;have qV:=hA.later qZ;clear qZ hA;generalize w1.heap.size=zZ at *;have H1:Hid ((Hx W1 w.heap.size #[.bool L,.slice F I V,iV e1,.bool s2,.slice H C J,iV e2] 104∧PN W1 (.agg (Nu L F I V e1)) t1∧PN W1 (.agg (Nu s2 H C J e2)) t2∧Bw w W1)∧PBx W1 zZ s3 qW n3 qL e3 ta):=⟨⟨qQ0 H0.out.1 qJ (qQ7 H0.out.1),H0.out.2.1.later qJ,H0.out.2.2.1.later qJ,H0.out.2.2.2.trans (qJ.mono H0.out.2.2.2.size)⟩,⟨n6,qV⟩⟩;clear H0 n6 qV zU qJ;obtain⟨mS,m1⟩:=H1.out;have qP:=mS.2.2.2;refine qM2 qX2 [0,1,2,3,4,5] [6] [7] [16,17,18,19,20,21] [7] [[],[0],[1],[],[2,3],[4]] [5] 50 (Nu false none 0 0 0) W1 _ [isV (.float .f64 f),isV (.float .f64 fp),isP (tp),isV (.agg (Nu s3 qW n3 qL e3)),isP (tq),isP (tl)] (by kernel_rfl) ⟨qQ2 _,qQ2 _,qX4 _,qQ2 _,qX4 _,qX4 _,trivial⟩ ⟨fun _ _ _ _ _ h=>h,fun _ _ _ _ _ h=>h,qJ5 _,fun _ _ _ _ _ h=>h,qJ5 _,qJ5 _,trivial⟩ (by show ∀ s ∈ [16,17,18,19,20,21] ++ [7],s<65;decide) ?_ ?_ ?_ zK8 Tryz.info50 ?_ ?_
 ·intro k' hk U u h;obtain rfl:k'=0:=Nat.lt_one_iff.1 hk;obtain⟨ao,cap,rfl,-⟩:=(show PN U u (tl)from h);exact⟨_,rfl,rfl,one3 rfl rfl⟩
 ·intro j hj o ho act U hb qK D;have zS:j<6:=hj;have qB:Bw w U:=qP.trans (hb.mono qP.size);have zK:act.tmps[(0:Nat)]?=some (Value.float .f64 f):=(qK 0 δ).trans rfl;have zX:act.tmps[(6:Nat)]?=some (Value.pointer (some ⟨zZ,0,none⟩)):=(qK 6 δ).trans rfl;have d6:=(qK8 (qQ0 m1.1 hb (qQ7 m1.1))).1;rcases(by omega:j=0∨j=1∨j=2∨j=3∨j=4∨j=5)with rfl|rfl|rfl|rfl|rfl|rfl
  ·obtain rfl:=kF0 ho;exact .inl ⟨rfl,qZ7 rfl zK ⟨_,rfl,rfl,kH9 _ _⟩⟩
  ·obtain rfl:=kF0 ho;have y0:act.tmps[(16:Nat)]?=_:=dV (D 0 (by simp[dL])) rfl
   refine .inl ⟨rfl,qQ9 rfl (qZ4 Tryz.func201 (by kernel_rfl) (by kernel_rfl)) (qN4 y0) ?_⟩
   refine(k2.out U).mono ?_
   rintro r w' ⟨rfl,T⟩;exact⟨_,rfl,_,rfl,rfl,T⟩
  ·obtain rfl:=kF0 ho;have y1:act.tmps[(17:Nat)]?=_:=dV (D 1 (by simp[dL])) rfl
   refine .inl ⟨rfl,qQ9 rfl (qZ4 Tryz.func32 (by kernel_rfl) (by kernel_rfl)) (qN4 y1) ?_⟩
   refine(k3.out U qB).mono ?_
   rintro r w' ⟨_,_,_,_,_,rfl,hA,T⟩;exact⟨_,rfl,_,rfl,hA,T⟩
  ·obtain rfl:=kF0 ho;exact .inl ⟨rfl,qK6 (f:=0) rfl zX d6.1 d6.2.1 d6.2.2 ⟨_,rfl,rfl,kH9 _ _⟩⟩
  ·obtain rfl:=kF0 ho;obtain⟨u2,zP,v2⟩:=D 2 (by simp[dL])
   have y2:act.tmps[(18:Nat)]?=_:=zP;have y3:act.tmps[(19:Nat)]?=_:=dV (D 3 (by simp[dL])) rfl
   refine .inl ⟨rfl,qQ9 rfl (qZ4 Tryz.func98 (by kernel_rfl) (by kernel_rfl)) (map2 y2 y3) ?_⟩
   refine(k4.out U _ _ qB v2 (m1.2.later hb)).mono ?_
   rintro r w' ⟨_,_,_,_,_,rfl,hA,T⟩;exact⟨_,rfl,_,rfl,hA,T⟩
  ·obtain rfl:=kF0 ho;obtain⟨u4,zY,v4⟩:=D 4 (by simp[dL])
   have y4:act.tmps[(20:Nat)]?=_:=zY;refine .inl ⟨rfl,qQ9 rfl (qZ4 Tryz.func140 (by kernel_rfl) (by kernel_rfl)) (yY7 y4) ?_⟩
   refine(k5.out U _ qB v4).mono ?_
   rintro r w' ⟨_,_,_,_,_,rfl,hA,T⟩;exact⟨_,rfl,_,rfl,hA,T⟩
 ·intro k' hk;obtain rfl:k'=0:=Nat.lt_one_iff.1 hk;exact⟨_,rfl,rfl⟩
 ·intro k' hk;obtain rfl:k'=0:=Nat.lt_one_iff.1 hk;exact⟨_,rfl,rfl⟩
 ·intro u g W3 qQ hu hg zG;obtain⟨g0,zF,q0,z0⟩:=hg 0 δ;have q7:PN W3 (u 5) (tl):=hu 5 δ;have qC:u 5=.agg zF:=q0;rw[qC] at q7;obtain⟨s4,qR,n4,qS,e4,h5⟩:=q7.shape1;obtain rfl:=Value.agg.inj h5;obtain⟨qD,qF⟩:∃ x,x=g 0:=⟨_,rfl⟩;rw[←qF] at z0 g0;have H3:Hid ((Hx W3 w.heap.size #[.bool L,.slice F I V,iV e1,.bool s2,.slice H C J,iV e2] 104∧PN W3 (.agg (Nu L F I V e1)) t1∧PN W3 (.agg (Nu s2 H C J e2)) t2∧Bw w W3)∧PBx W3 zZ s3 qW n3 qL e3 ta∧PBx W3 qD s4 qR n4 qS e4 tl):=⟨⟨qQ0 mS.1 qQ (qQ7 mS.1),mS.2.1.later qQ,mS.2.2.1.later qQ,mS.2.2.2.trans (qQ.mono mS.2.2.2.size)⟩,m1.later qQ,⟨z0,q7⟩⟩;clear hu hg zG qQ m1 mS qP H1 q0 qC z0 g0 q7 h5 k2 k3 k4 k5;simp only[putL,show List.range 6 = [0,1,2,3,4,5] from rfl,show List.range 1 = [0] from rfl,kG2,kG3,kG4,kG5,kH2,kH3,kH0,kG9,List.foldl_cons,List.foldl_nil,Nat.reduceLT,Nat.reduceMod,Nat.reduceDiv,Nat.reduceMul,Nat.reduceAdd,Nat.reduceEqDiff,reduceIte,kG8,Act.put,kU9,kG0,kG1];rw[←qF];clear qF
  go_upto_region 3 with fail;obtain⟨mS,m1,m2⟩:=H3.out;have qP:=mS.2.2.2;refine qM2 qX2 [0,1,2,3,4,5] [6] [7] [22,23,24,25,26,27] [8] [[],[],[1],[2],[3],[0,4]] [5] 50 (Nu false none 0 0 0) W3 _ [isV (.agg (Nu s3 qW n3 qL e3)),isV (.float .f64 f),isV (.float .f64 fu),isP (tu),isP (tv),isP (th)] (by kernel_rfl) ⟨qQ2 _,qQ2 _,qQ2 _,qX4 _,qX4 _,qX4 _,trivial⟩ ⟨fun _ _ _ _ _ h=>h,fun _ _ _ _ _ h=>h,fun _ _ _ _ _ h=>h,qJ5 _,qJ5 _,qJ5 _,trivial⟩ (by show ∀ s ∈ [22,23,24,25,26,27] ++ [8],s<65;decide) ?_ ?_ ?_ zK8 Tryz.info50 ?_ ?_
  ·intro k' hk U u h;obtain rfl:k'=0:=Nat.lt_one_iff.1 hk;obtain⟨ao,cap,rfl,-⟩:=(show PN U u (th)from h);exact⟨_,rfl,rfl,one3 rfl rfl⟩
  ·intro j hj o ho act U hb qK D;have zS:j<6:=hj;have qB:Bw w U:=qP.trans (hb.mono qP.size);have zK:act.tmps[(0:Nat)]?=some (Value.float .f64 f):=(qK 0 δ).trans rfl;have zX:act.tmps[(6:Nat)]?=some (Value.pointer (some ⟨zZ,0,none⟩)):=(qK 6 δ).trans rfl;have d6:=(qK8 (qQ0 m1.1 hb (qQ7 m1.1))).1;rcases(by omega:j=0∨j=1∨j=2∨j=3∨j=4∨j=5)with rfl|rfl|rfl|rfl|rfl|rfl
   ·obtain rfl:=kF0 ho;exact .inl ⟨rfl,qK6 (f:=0) rfl zX d6.1 d6.2.1 d6.2.2 ⟨_,rfl,rfl,kH9 _ _⟩⟩
   ·obtain rfl:=kF0 ho;exact .inl ⟨rfl,qZ7 rfl zK ⟨_,rfl,rfl,kH9 _ _⟩⟩
   ·obtain rfl:=kF0 ho;have y1:act.tmps[(23:Nat)]?=_:=dV (D 1 (by simp[dL])) rfl
    refine .inl ⟨rfl,qQ9 rfl (qZ4 Tryz.func202 (by kernel_rfl) (by kernel_rfl)) (qN4 y1) ?_⟩
    refine(k6.out U).mono ?_
    rintro r w' ⟨rfl,T⟩;exact⟨_,rfl,_,rfl,rfl,T⟩
   ·obtain rfl:=kF0 ho;have y2:act.tmps[(24:Nat)]?=_:=dV (D 2 (by simp[dL])) rfl
    refine .inl ⟨rfl,qQ9 rfl (qZ4 Tryz.func32 (by kernel_rfl) (by kernel_rfl)) (qN4 y2) ?_⟩
    refine(k7.out U qB).mono ?_
    rintro r w' ⟨_,_,_,_,_,rfl,hA,T⟩;exact⟨_,rfl,_,rfl,hA,T⟩
   ·obtain rfl:=kF0 ho;obtain⟨u3,zM,v3⟩:=D 3 (by simp[dL])
    have y3:act.tmps[(25:Nat)]?=_:=zM;refine .inl ⟨rfl,qQ9 rfl (qZ4 Tryz.func140 (by kernel_rfl) (by kernel_rfl)) (yY7 y3) ?_⟩
    refine(k8.out U _ qB v3).mono ?_
    rintro r w' ⟨_,_,_,_,_,rfl,hA,T⟩;exact⟨_,rfl,_,rfl,hA,T⟩
   ·obtain rfl:=kF0 ho;have y0:act.tmps[(22:Nat)]?=_:=dV (D 0 (by simp[dL])) rfl
    obtain⟨u4,zY,v4⟩:=D 4 (by simp[dL])
    have y4:act.tmps[(26:Nat)]?=_:=zY;refine .inl ⟨rfl,qQ9 rfl (qZ4 Tryz.func98 (by kernel_rfl) (by kernel_rfl)) (map2 y0 y4) ?_⟩
    refine(k9.out U _ _ qB (m1.2.later hb) v4).mono ?_
    rintro r w' ⟨_,_,_,_,_,rfl,hA,T⟩;exact⟨_,rfl,_,rfl,hA,T⟩
  ·intro k' hk;obtain rfl:k'=0:=Nat.lt_one_iff.1 hk;exact⟨_,rfl,rfl⟩
  ·intro k' hk;obtain rfl:k'=0:=Nat.lt_one_iff.1 hk;exact⟨_,rfl,rfl⟩
  ·intro u g W4 qQ hu hg zG;obtain⟨g0,zF,q0,z0⟩:=hg 0 δ;have q7:PN W4 (u 5) (th):=hu 5 δ;have qC:u 5=.agg zF:=q0;rw[qC] at q7;obtain⟨s5,qH,n5,qG,e5,h5⟩:=q7.shape1;obtain rfl:=Value.agg.inj h5;obtain⟨qU,qF⟩:∃ x,x=g 0:=⟨_,rfl⟩;rw[←qF] at z0 g0;have H4:Hid ((Hx W4 w.heap.size #[.bool L,.slice F I V,iV e1,.bool s2,.slice H C J,iV e2] 104∧PN W4 (.agg (Nu L F I V e1)) t1∧PN W4 (.agg (Nu s2 H C J e2)) t2∧Bw w W4)∧PBx W4 qD s4 qR n4 qS e4 tl∧PBx W4 qU s5 qH n5 qG e5 th):=⟨⟨qQ0 mS.1 qQ (qQ7 mS.1),mS.2.1.later qQ,mS.2.2.1.later qQ,mS.2.2.2.trans (qQ.mono mS.2.2.2.size)⟩,m2.later qQ,⟨z0,q7⟩⟩;clear hu hg zG qQ m1 m2 mS qP H3 q0 qC z0 g0 q7 h5 k6 k7 k8 k9;simp only[putL,show List.range 6 = [0,1,2,3,4,5] from rfl,show List.range 1 = [0] from rfl,kG2,kG3,kG4,kG5,kH2,kH3,kH0,kG9,List.foldl_cons,List.foldl_nil,Nat.reduceLT,Nat.reduceMod,Nat.reduceDiv,Nat.reduceMul,Nat.reduceAdd,Nat.reduceEqDiff,reduceIte,kG8,Act.put,kU9,kG0,kG1];rw[←qF];clear qF;obtain⟨c0,c1,c2,c3,c4,c5⟩:=(qU1 H4.out.1.1).1;obtain⟨d0,d1,d2⟩:=(qK8 H4.out.2.1.1).1;have kk:=kA.out W4 _ H4.out.1.2.2.2 H4.out.1.2.1 H4.out.1.2.2.1 H4.out.2.1.2;clear kA
   go_wp2_with fail;refine kk.mono ?_;rintro r w5 ⟨s6,qA,n6,qE,e6,rfl,hA,zV⟩;clear kk c0 c1 c2 c3 c4 c5 d0 d1 d2;obtain⟨W5,qO⟩:=eE (w5.alloc (.cells (Nu s6 qA n6 qE e6) 50));have qZ:Bw w5 W5:=by rw[qO];exact bR.alloc lR _
   have n6:Hn W5 w5.heap.size s6 qA n6 qE e6 50:=by rw[qO];exact kB7 _ _
   have qY:Bw W4 W5:=zV.trans (qZ.mono zV.size)
   go_upto_region 5 with fail;rw[←qO];clear qO;have qV:=hA.later qZ;clear qZ hA zV;generalize w5.heap.size=zL at *;have H5:Hid ((Hx W5 w.heap.size #[.bool L,.slice F I V,iV e1,.bool s2,.slice H C J,iV e2] 104∧PN W5 (.agg (Nu L F I V e1)) t1∧PN W5 (.agg (Nu s2 H C J e2)) t2∧Bw w W5)∧PBx W5 qD s4 qR n4 qS e4 tl∧PBx W5 qU s5 qH n5 qG e5 th):=⟨⟨qQ0 H4.out.1.1 qY (qQ7 H4.out.1.1),H4.out.1.2.1.later qY,H4.out.1.2.2.1.later qY,H4.out.1.2.2.2.trans (qY.mono H4.out.1.2.2.2.size)⟩,H4.out.2.1.later qY,H4.out.2.2.later qY⟩;obtain⟨⟨d0,d1,d2⟩,-⟩:=qQ3 n6;have kk:=kB.out W5 _ H5.out.1.2.2.2 qV;clear kB H4 qY n6 qV
   go_wp2_with fail;refine kk.mono ?_;rintro r w6 ⟨rfl,qM⟩;have H6:Hid ((Hx w6 w.heap.size #[.bool L,.slice F I V,iV e1,.bool s2,.slice H C J,iV e2] 104∧PN w6 (.agg (Nu L F I V e1)) t1∧PN w6 (.agg (Nu s2 H C J e2)) t2∧Bw w w6)∧PBx w6 qD s4 qR n4 qS e4 tl∧PBx w6 qU s5 qH n5 qG e5 th):=⟨⟨qQ0 H5.out.1.1 qM (qQ7 H5.out.1.1),H5.out.1.2.1.later qM,H5.out.1.2.2.1.later qM,H5.out.1.2.2.2.trans (qM.mono H5.out.1.2.2.2.size)⟩,H5.out.2.1.later qM,H5.out.2.2.later qM⟩;clear kk d0 d1 d2 qM H5;have zD:IntKind.u64.wrap ((N:Int)+1)=(N:Int)+1:=by rw[kB6];omega
   go_upto_region 6 with fail
   go_cut [43] from 34 to 42 (fun v wx=>v=.bool (!(b1&&r1))∧Hid ((Hx wx w.heap.size #[.bool L,.slice F I V,iV e1,.bool s2,.slice H C J,iV e2] 104∧PN wx (.agg (Nu L F I V e1)) t1∧PN wx (.agg (Nu s2 H C J e2)) t2∧Bw w wx)∧PBx wx qD s4 qR n4 qS e4 tl∧PBx wx qU s5 qH n5 qG e5 th))
   case first =>
    cases b1
    ·clear kC
     go_wp2
     go_meet
     exact⟨rfl,H6⟩
    ·have kk:=kC.out rfl w6 _ H6.out.1.2.2.2 H6.out.2.1.2;obtain⟨⟨d0,d1,d2⟩,-⟩:=qQ3 H6.out.2.1.1;clear kC
     go_wp2_with fail;refine kk.mono ?_;rintro r w7 ⟨rfl,qN⟩;have H7:Hid ((Hx w7 w.heap.size #[.bool L,.slice F I V,iV e1,.bool s2,.slice H C J,iV e2] 104∧PN w7 (.agg (Nu L F I V e1)) t1∧PN w7 (.agg (Nu s2 H C J e2)) t2∧Bw w w7)∧PBx w7 qD s4 qR n4 qS e4 tl∧PBx w7 qU s5 qH n5 qG e5 th):=⟨⟨qQ0 H6.out.1.1 qN (qQ7 H6.out.1.1),H6.out.1.2.1.later qN,H6.out.1.2.2.1.later qN,H6.out.1.2.2.2.trans (qN.mono H6.out.1.2.2.2.size)⟩,H6.out.2.1.later qN,H6.out.2.2.later qN⟩;clear kk d0 d1 d2 qN H6
     go_wp2
     go_meet
     exact⟨rfl,H7⟩
   case rest =>
   obtain⟨rfl,H8⟩:=hcut;clear H6 kC
   go_upto_if 43 with fail
   go_cut [11] from 34 to 45 (fun v wx=>v=.int .u64 (LS:Nat)∧Hid ((Hx wx w.heap.size #[.bool L,.slice F I V,iV e1,.bool s2,.slice H C J,iV e2] 104∧PN wx (.agg (Nu L F I V e1)) t1∧PN wx (.agg (Nu s2 H C J e2)) t2∧Bw w wx)∧PBx wx qD s4 qR n4 qS e4 tl∧PBx wx qU s5 qH n5 qG e5 th))
   case first =>
    cases hc:b1&&r1
    ·go_wp2
     go_meet
     exact⟨by rw[zN.out,hc];simp,H8⟩
    ·go_wp2
     go_meet
     exact⟨by rw[zN.out,hc];simp,H8⟩
   case rest =>
   obtain⟨rfl,H7⟩:=hcut;clear H8 zD;obtain⟨c0,c1,c2,c3,c4,c5⟩:=(qU1 H7.out.1.1).1;obtain⟨d0,d1,d2⟩:=(qK8 H7.out.2.2.1).1;have kk:=kD.out _ _ H7.out.1.2.2.2 H7.out.1.2.1 H7.out.1.2.2.1 H7.out.2.2.2;clear kD
   go_wp2_with fail;refine kk.mono ?_;rintro r w8 ⟨s6,qA,n6,qE,e6,rfl,hA,zJ⟩;clear kk c0 c1 c2 c3 c4 c5 d0 d1 d2;obtain⟨W8,qI⟩:=eE (w8.alloc (.cells (Nu s6 qA n6 qE e6) 50));have qZ:Bw w8 W8:=by rw[qI];exact bR.alloc lR _
   have n6:Hn W8 w8.heap.size s6 qA n6 qE e6 50:=by rw[qI];exact kB7 _ _
   have qX:=zJ.trans (qZ.mono zJ.size)
   go_upto_region 9 with fail;rw[←qI];clear qI;have qV:=hA.later qZ;clear qZ hA zJ;generalize w8.heap.size=zW at *;have H8:Hid ((Hx W8 w.heap.size #[.bool L,.slice F I V,iV e1,.bool s2,.slice H C J,iV e2] 104∧PN W8 (.agg (Nu L F I V e1)) t1∧PN W8 (.agg (Nu s2 H C J e2)) t2∧Bw w W8)∧PBx W8 qU s5 qH n5 qG e5 th):=⟨⟨qQ0 H7.out.1.1 qX (qQ7 H7.out.1.1),H7.out.1.2.1.later qX,H7.out.1.2.2.1.later qX,H7.out.1.2.2.2.trans (qX.mono H7.out.1.2.2.2.size)⟩,H7.out.2.2.later qX⟩;obtain⟨⟨d0,d1,d2⟩,-⟩:=qQ3 n6;have kk:=kE.out W8 _ H8.out.1.2.2.2 qV;clear kE H7 qX n6 qV
   go_wp2_with fail;refine kk.mono ?_;rintro r w9 ⟨rfl,qT⟩;have H9:Hid ((Hx w9 w.heap.size #[.bool L,.slice F I V,iV e1,.bool s2,.slice H C J,iV e2] 104∧PN w9 (.agg (Nu L F I V e1)) t1∧PN w9 (.agg (Nu s2 H C J e2)) t2∧Bw w w9)∧PBx w9 qU s5 qH n5 qG e5 th):=⟨⟨qQ0 H8.out.1.1 qT (qQ7 H8.out.1.1),H8.out.1.2.1.later qT,H8.out.1.2.2.1.later qT,H8.out.1.2.2.2.trans (qT.mono H8.out.1.2.2.2.size)⟩,H8.out.2.later qT⟩;clear kk d0 d1 d2 qT H8;have zT:IntKind.u64.wrap ((M:Int) - 1)=((M - 1:Nat):Int):=by have:=zR.out;rw[kB6];omega
   go_upto_region 10 with fail;cases b2
   ·clear kF
    go_wp2;refine kB8 (kM3 rfl _ _ _) rfl ?_;exact⟨by rw[zH.out];simp,H9.out.1.2.2.2⟩
   ·have kk:=kF.out rfl w9 _ H9.out.1.2.2.2 H9.out.2.2;obtain⟨⟨d0,d1,d2⟩,-⟩:=qQ3 H9.out.2.1;clear kF
    go_wp2_with fail;refine kk.mono ?_;rintro r wA ⟨rfl,zB⟩;have HA:Hid _:=H9.out.1.2.2.2.trans (zB.mono H9.out.1.2.2.2.size);clear kk d0 d1 d2 zB H9;cases r2
    ·go_wp2;refine kB8 (kM3 rfl _ _ _) rfl ?_;exact⟨by rw[zH.out];simp,HA.out⟩
    ·go_wp2;refine kB8 (kM3 rfl _ _ _) rfl ?_;exact⟨by rw[zH.out];simp,HA.out⟩
def fwU (j:Nat):Nat:=10^(16 - j)
def fwL (t j:Nat):Nat:=t / 2 / fwU j*fwU j
theorem qD2 (j:Nat):0<fwU j:=kH1 δ
theorem zT0 (j:Nat):fwU j≤10000000000000000:=kF8 (kF4 δ (Nat.sub_le 16 j)) δ
theorem yR1 {j:Nat} (h:1<fwU j):fwU j / 10=fwU (j+1)∧j<16:=by
 have Y:j<16:=by
  rcases Nat.lt_or_ge j 16 with u|u
  ·exact u
  ·have:fwU j=1:=by unfold fwU;rw[Nat.sub_eq_zero_of_le u]
   omega
 refine⟨?_,Y⟩
 unfold fwU;rw[show 16 - j=(16 - (j+1))+1 by omega,kN5,Nat.mul_div_cancel _ δ]
theorem yO0 (t j:Nat):fwL t j≤t / 2:=kM9 _ _
theorem zL6 (a b:Nat):Int.tdiv (a:Int) (b:Int)=((a / b:Nat):Int):=by simp
theorem yB2 (f:Nat) (s1:Bool) (qY:Option Addr) (n1 qQ:Nat) (e1:Int) (s2:Bool) (qZ:Option Addr) (n2 I:Nat) (e2:Int) (s3:Bool) (qB:Option Addr) (n3 qF:Nat) (e3:Int) (t1 t2 ta td tn tp:Bool×Nat×Int) (is ab:Bool) (LS MS T J F:Nat) (w:World) (h1:PN w (.agg (Nu s1 qY n1 qQ e1)) t1) (h2:PN w (.agg (Nu s2 qZ n2 I e2)) t2) (h3:PN w (.agg (Nu s3 qB n3 qF e3)) ta) (yU:LS<4611686018427387904) (yV:MS<4611686018427387904) (yJ:T<4611686018427387904)
  (zM:Hid (∀ j,j<J→1<fwU j∧fwL T j<LS∧MS<fwL T j+fwU j)) (zN:Hid (¬ (1<fwU J∧fwL T J<LS∧MS<fwL T J+fwU J)))
  (zB:Hid (ab=(decide (fwU J<T - 2*fwL T J)||(decide (T - 2*fwL T J=fwU J)&&(!is||decide (fwL T J / fwU J % 2=1))))))
  (hF:Hid (F=if fwL T J<LS∨(ab=true∧fwL T J+fwU J≤MS)then fwL T J+fwU J else fwL T J))
  (k1:Hid (∀ W,Bw w W→PN W (.agg (Nu s1 qY n1 qQ e1)) t1→PN W (.agg (Nu s2 qZ n2 I e2)) t2→Ca 139 #[.float .f64 f,.agg #[.bool s1,.slice qY n1 qQ,iV e1,.bool s2,.slice qZ n2 I,iV e2]] W (Rq W (.tuple #[.int .u64 (LS:Nat),.int .u64 (MS:Nat)]))))
  (k2:Hid (∀ W X,Bw w W→PN W X ta→Ca 140 #[X,iV 1] W fun r w'=>OutA W td r w'))
  (k3:Hid (∀ W X,Bw w W→PN W (.agg (Nu s1 qY n1 qQ e1)) t1→PN W (.agg (Nu s2 qZ n2 I e2)) t2→PN W X td→Ca 96 #[.agg #[.bool s1,.slice qY n1 qQ,iV e1,.bool s2,.slice qZ n2 I,iV e2],X] W fun r w'=>zG9 W tn is r w'))
  (k4:Hid (∀ W X,Bw w W→PN W X tn→Ca 92 #[X] W (Rq W (.int .u64 (T:Nat)))))
  (k5:Hid (∀ W,Bw w W→Ca 88 #[iV 10,iV 16] W fun r w'=>OutA W tp r w'))
  (k6:Hid (∀ W X,Bw w W→PN W X tp→Ca 92 #[X] W (Rq W (.int .u64 (fwU 0:Nat))))) :
  Ca 76 #[.float .f64 f,.agg (Nu s3 qB n3 qF e3),.agg #[.bool s1,.slice qY n1 qQ,iV e1,.bool s2,.slice qZ n2 I,iV e2]] w (Rq w (.int .u64 (F:Nat))):=by
 obtain⟨W,hW⟩:=eE ((w.alloc (.cells (Nu s3 qB n3 qF e3) 50)).alloc (.cells #[.bool s1,.slice qY n1 qQ,iV e1,.bool s2,.slice qZ n2 I,iV e2] 104));obtain⟨z1,z2,z3,z4⟩:=qG9 _ _ hW;have H0:Hid (Hx W (w.heap.size+1) #[.bool s1,.slice qY n1 qQ,iV e1,.bool s2,.slice qZ n2 I,iV e2] 104∧PN W (.agg (Nu s1 qY n1 qQ e1)) t1∧PN W (.agg (Nu s2 qZ n2 I e2)) t2∧Bw w W∧PBx W w.heap.size s3 qB n3 qF e3 ta):=⟨z2,h1.later z4,h2.later z4,z4,⟨z1,h3.later z4⟩⟩;have kk:=k1.out W z4 (h1.later z4) (h2.later z4);obtain⟨c0,c1,c2,c3,c4,c5⟩:=(qU1 z2).1;clear k1 h1 h2 h3 z1 z2 z3 z4
 go_enter Tryz.func76,Tryz.ntmps76
 go_upto_region 1 with fail;rw[←hW];clear hW
 go_wp2_with fail;refine kk.mono ?_;rintro r w1 ⟨rfl,qU⟩;have H1:Hid _:=aI5 (qQ0 H0.out.1 qU (qQ7 H0.out.1)) (H0.out.2.1.later qU) (H0.out.2.2.1.later qU) (H0.out.2.2.2.1.trans (qU.mono H0.out.2.2.2.1.size)) (H0.out.2.2.2.2.later qU);clear kk qU H0 c0 c1 c2 c3 c4 c5
 go_upto_region 2 with fail;obtain⟨mS,p1,p2,qH,m1⟩:=H1.out;refine qM2 qX2 [0,1,2,3,4,5,6,9] [7] [8] [23,24,25,26,22,27,28,10] [9] [[],[],[1],[0,2],[3],[4],[4],[6]] [5] 50 (Nu false none 0 0 0) w1 _ [isV (.agg #[.bool s1,.slice qY n1 qQ,iV e1,.bool s2,.slice qZ n2 I,iV e2]),isV (.agg (Nu s3 qB n3 qF e3)),isP (td),isW2 tn is,isW2 tn is,isP (tn),isV (.bool is),isV (.bool is)] (by kernel_rfl) ⟨qQ2 _,qQ2 _,qX4 _,qM9 _ _,qM9 _ _,qX4 _,qQ2 _,qQ2 _,trivial⟩ ⟨fun _ _ _ _ _ h=>h,fun _ _ _ _ _ h=>h,qJ5 _,qR6 _ _,qR6 _ _,qJ5 _,fun _ _ _ _ _ h=>h,fun _ _ _ _ _ h=>h,trivial⟩ (by show ∀ s ∈ [23,24,25,26,22,27,28,10] ++ [9],s<101;decide) ?_ ?_ ?_ zK8 Tryz.info50 ?_ ?_
 ·intro k' hk U u h;obtain rfl:k'=0:=Nat.lt_one_iff.1 hk;obtain⟨ao,cap,rfl,-⟩:=(show PN U u (tn)from h);exact⟨_,rfl,rfl,one3 rfl rfl⟩
 ·intro j hj o ho act U hb qS C;have yK:j<8:=hj;have zV:Bw w U:=qH.trans (hb.mono qH.size);have zT:act.tmps[(4:Nat)]?=some (Value.pointer (some ⟨w.heap.size,0,none⟩)):=(qS 4 δ).trans rfl;have zR:act.tmps[(5:Nat)]?=some (Value.pointer (some ⟨w.heap.size+1,0,none⟩)):=(qS 5 δ).trans rfl;have d4:=(qK8 (qQ0 m1.1 hb (qQ7 m1.1))).1;have d5:=(qU1 (qQ0 mS hb (qQ7 mS))).1;rcases(by omega:j=0∨j=1∨j=2∨j=3∨j=4∨j=5∨j=6∨j=7)with rfl|rfl|rfl|rfl|rfl|rfl|rfl|rfl
  ·obtain rfl:=kF0 ho;exact .inl ⟨rfl,xV3 rfl zR (by simp[go_sem,d5.1,d5.2.1,d5.2.2.1,d5.2.2.2.1,d5.2.2.2.2.1,d5.2.2.2.2.2]) ⟨_,rfl,rfl,kH9 _ _⟩⟩
  ·obtain rfl:=kF0 ho;exact .inl ⟨rfl,qK6 (f:=0) rfl zT d4.1 d4.2.1 d4.2.2 ⟨_,rfl,rfl,kH9 _ _⟩⟩
  ·obtain rfl:=kF0 ho;have y1:act.tmps[(24:Nat)]?=_:=dV (C 1 (by simp[dL])) rfl
   refine .inl ⟨rfl,qQ9 rfl (qZ4 Tryz.func140 (by kernel_rfl) (by kernel_rfl)) (yY7 y1) ?_⟩
   refine(k2.out U _ zV (m1.2.later hb)).mono ?_
   rintro r w' ⟨_,_,_,_,_,rfl,hA,qL⟩;exact⟨_,rfl,_,rfl,hA,qL⟩
  ·obtain rfl:=kF0 ho;have y0:act.tmps[(23:Nat)]?=_:=dV (C 0 (by simp[dL])) rfl
   obtain⟨u2,zS,v2⟩:=C 2 (by simp[dL])
   have y2:act.tmps[(25:Nat)]?=_:=zS;refine .inl ⟨rfl,qQ9 rfl (qZ4 Tryz.func96 (by kernel_rfl) (by kernel_rfl)) (map2 y0 y2) ?_⟩
   refine(k3.out U _ zV (p1.later hb) (p2.later hb) v2).mono ?_
   rintro r w' ⟨_,_,_,_,_,rfl,hA,qL⟩;exact⟨_,rfl,_,rfl,⟨_,rfl,hA⟩,qL⟩
  ·obtain rfl:=kF0 ho;obtain⟨u3,zD,v3⟩:=C 3 (by simp[dL])
   have y3:act.tmps[(26:Nat)]?=_:=zD;exact .inl ⟨rfl,qZ7 rfl y3 ⟨_,rfl,v3,kH9 _ _⟩⟩
  ·obtain rfl:=kF0 ho;obtain⟨u4,qR,A,rfl,vA⟩:=C 4 (by simp[dL])
   have y4:act.tmps[(22:Nat)]?=_:=qR;exact .inl ⟨rfl,qJ9 rfl y4 rfl ⟨_,rfl,vA,kH9 _ _⟩⟩
  ·obtain rfl:=kF0 ho;obtain⟨u4,qR,A,rfl,vA⟩:=C 4 (by simp[dL])
   have y4:act.tmps[(22:Nat)]?=_:=qR;exact .inl ⟨rfl,qJ9 rfl y4 rfl ⟨_,rfl,rfl,kH9 _ _⟩⟩
  ·obtain rfl:=kF0 ho;have y6:act.tmps[(28:Nat)]?=_:=dV (C 6 (by simp[dL])) rfl
   exact .inl ⟨rfl,qX5 rfl y6 ⟨_,rfl,rfl,kH9 _ _⟩⟩
 ·intro k' hk;obtain rfl:k'=0:=Nat.lt_one_iff.1 hk;exact⟨_,rfl,rfl⟩
 ·intro k' hk;obtain rfl:k'=0:=Nat.lt_one_iff.1 hk;exact⟨_,rfl,rfl⟩
 ·intro u g W3 zF hu hg zW;obtain⟨g0,zO,q0,z0⟩:=hg 0 δ;have q7:PN W3 (u 5) (tn):=hu 5 δ;have qA:u 5=.agg zO:=q0;rw[qA] at q7;obtain⟨s5,yZ,n5,yQ,e5,h5⟩:=q7.shape1;obtain rfl:=Value.agg.inj h5;obtain⟨zI,qT⟩:∃ x,x=g 0:=⟨_,rfl⟩;rw[←qT] at z0 g0;have u7:u 7=.bool is:=hu 7 δ;have H3:Hid (Bw w W3∧PBx W3 zI s5 yZ n5 yQ e5 tn):=⟨qH.trans (zF.mono qH.size),⟨z0,q7⟩⟩;clear hu hg zW zF m1 mS p1 p2 qH H1 q0 qA z0 g0 q7 h5 k2 k3;simp only[putL,show List.range 8 = [0,1,2,3,4,5,6,7] from rfl,show List.range 1 = [0] from rfl,kG2,kG3,kG4,kG5,kH2,kH3,kH0,kG9,List.foldl_cons,List.foldl_nil,Nat.reduceLT,Nat.reduceMod,Nat.reduceDiv,Nat.reduceMul,Nat.reduceAdd,Nat.reduceEqDiff,reduceIte,kG8,Act.put,kU9,kG0,kG1];rw[←qT];clear qT;rw[u7];clear u7;obtain⟨⟨d0,d1,d2⟩,-⟩:=qQ3 H3.out.2.1;have kk:=k4.out W3 _ H3.out.1 H3.out.2.2;clear k4
  go_wp2_with fail;refine kk.mono ?_;rintro r w4 ⟨rfl,zH⟩;have H4:Hid _:=H3.out.1.trans (zH.mono H3.out.1.size);have zQ:=k5.out w4 H4.out;clear kk d0 d1 d2 zH H3 k5
  go_wp2_with fail;refine zQ.mono ?_;rintro r w5 ⟨s6,yH,n6,yG,e6,rfl,hA,zG⟩;have H5:Hid _:=H4.out.trans (zG.mono H4.out.size);have qO:=k6.out w5 _ H5.out hA;clear zQ zG H4 k6 hA
  go_wp2_with fail;refine qO.mono ?_;rintro r w6 ⟨rfl,zU⟩;have H6:Hid _:=H5.out.trans (zU.mono H5.out.size);clear qO zU H5
  go_upto_region 5 with fail;obtain⟨U,hU⟩:=eE (fwU 0);have HU:Hid (U=fwU 0∧0<U∧U≤10000000000000000):=⟨hU,by rw[hU];exact qD2 0,by rw[hU];exact zT0 0⟩
  rw[←hU];clear hU;have zE:0<U:=HU.out.2.1;have zC:((U:Int)==0)=false:=by rw[kN2];omega
  obtain⟨T2,qM⟩:=eE (T / 2);have qN:Hid _:=qM;obtain⟨q,hq⟩:=eE (T2 / U);obtain⟨l0,hl⟩:=eE (q*U);have qD:Hid (l0=fwL T 0):=(by rw[hl,hq,qM,HU.out.1];rfl:l0=fwL T 0)
  have b1:l0≤T2:=by rw[hl,hq];exact kM9 _ _
  have b2:q≤T2:=by rw[hq];exact kF9 _ _
  have b3:T2<4611686018427387904:=ω;have e1:Int.tdiv (T:Int) 2=(T2:Int):=by rw[qM];exact zL6 _ _
  have e2:Int.tdiv (T2:Int) (U:Int)=(q:Int):=by rw[hq];exact zL6 _ _
  have e3:(q:Int)*(U:Int)=(l0:Int):=by rw[hl];exact(kN8 _ _).symm
  have w1:IntKind.u64.wrap (T2:Int)=(T2:Int):=by rw[kB6];omega
  have w2:IntKind.u64.wrap (q:Int)=(q:Int):=by rw[kB6];omega
  have w3:IntKind.u64.wrap (l0:Int)=(l0:Int):=by rw[kB6];omega
  clear qM hq hl
  go_wp2;clear e1 e2 e3 w1 w2 w3 b1 b2 zE zC
  go_loopg [12,13] J (fun m u l wr=>∃ j:Nat,j+m=J∧u=.int .u64 (fwU j:Nat)∧l=.int .u64 (fwL T j:Nat)∧wr=w6)
  case atStart=>exact⟨0,ω,by rw[HU.out.1],by rw[qD.out],rfl⟩
  case round =>
   obtain⟨j,zY,rfl,rfl,V⟩:=hrel;replace V:=V.symm;subst V;have qE:Hid _:=zY;clear qD HU zY;obtain⟨H,qG⟩:=eE (fwU j);obtain⟨Y,qP⟩:=eE (fwL T j);have qX:Hid (H=fwU j∧Y=fwL T j∧Y=T2 / H*H):=⟨qG,qP,by rw[qP,qG,qN.out];rfl⟩
   have b0:0<H:=by rw[qG];exact qD2 j
   have b1:H≤10000000000000000:=by rw[qG];exact zT0 j
   have b2:Y≤T2:=by rw[qX.out.2.2];exact kM9 _ _
   have b4:T2≤T:=by rw[qN.out];exact kF9 _ _
   rw[←qG,←qP];clear qG qP;have w0:IntKind.u64.wrap ((Y:Int)+(H:Int))=(Y:Int)+(H:Int):=by rw[kB6];omega
   by_cases zZ:j<J
   ·obtain⟨L,x2,x3⟩:=zM.out j zZ;rw[←qX.out.1] at L x3;rw[←qX.out.2.1] at x2 x3;obtain⟨qI,zL⟩:=yR1 (j:=j) (by rw[←qX.out.1];exact L)
    have c1:(1:Int)<(H:Int):=ω;have c2:(Y:Int)<(LS:Int):=ω;have c3:(MS:Int)<(Y:Int)+(H:Int):=ω;obtain⟨Uk,qW⟩:=eE (H / 10);have HK:Hid (Uk=fwU (j+1)):=(by rw[qW,qX.out.1];exact qI:Uk=fwU (j+1))
    have yX:0<Uk:=by rw[HK.out];exact qD2 _
    have yY:((Uk:Int)==0)=false:=by rw[kN2];omega
    obtain⟨q,hq⟩:=eE (T2 / Uk);obtain⟨l0,hl⟩:=eE (q*Uk);have qD:Hid (l0=fwL T (j+1)):=(by rw[hl,hq,qN.out,HK.out];rfl:l0=fwL T (j+1))
    have d1:l0≤T2:=by rw[hl,hq];exact kM9 _ _
    have d2:q≤T2:=by rw[hq];exact kF9 _ _
    have a0:Int.tdiv (H:Int) 10=(Uk:Int):=by rw[qW];exact zL6 _ _
    have a1:Int.tdiv (T:Int) 2=(T2:Int):=by rw[qN.out];exact zL6 _ _
    have a2:Int.tdiv (T2:Int) (Uk:Int)=(q:Int):=by rw[hq];exact zL6 _ _
    have a3:(q:Int)*(Uk:Int)=(l0:Int):=by rw[hl];exact(kN8 _ _).symm
    have w4:IntKind.u64.wrap (Uk:Int)=(Uk:Int):=by rw[kB6];omega
    have w1:IntKind.u64.wrap (T2:Int)=(T2:Int):=by rw[kB6];omega
    have w2:IntKind.u64.wrap (q:Int)=(q:Int):=by rw[kB6];omega
    have w3:IntKind.u64.wrap (l0:Int)=(l0:Int):=by rw[kB6];omega
    clear hq hl qW L x2 x3 qI zL
    go_wp2
    go_roundg (gk - 1)
    case measure=>have:=qE.out;omega
    case rel=>exact⟨j+1,by have:=qE.out;omega,by rw[HK.out],by rw[qD.out],rfl⟩
   ·obtain rfl:j=J:=by have:=qE.out;omega
    have qV:=zN.out;rw[←qX.out.1,←qX.out.2.1] at qV
    go_upto_region 6 with fail
    go_cut [52] from 39 to 51 (fun v wx=>v=.bool false∧wx=w6)
    case first =>
     by_cases L:1<H
     ·have c1:(1:Int)<(H:Int):=ω;by_cases x2:Y<LS
      ·have c2:(Y:Int)<(LS:Int):=ω;have c3:¬ (MS:Int)<(Y:Int)+(H:Int):=fun h=>qV ⟨L,x2,ω⟩;clear qV L x2
       go_wp2
       go_meet
       exact⟨rfl,rfl⟩
      ·have c2:¬ (Y:Int)<(LS:Int):=ω;clear qV L x2
       go_wp2
       go_meet
       exact⟨rfl,rfl⟩
     ·have c1:¬ (1:Int)<(H:Int):=ω;clear qV L
      go_wp2
      go_meet
      exact⟨rfl,rfl⟩
    case rest =>
    obtain⟨rfl,V⟩:=hcut;replace V:=V.symm;subst V;clear qV zZ zM zN;have qK:=zB.out;have qC:=hF.out;rw[←qX.out.1,←qX.out.2.1] at qK qC;obtain⟨Q,hQ⟩:=eE (Y / H);rw[←hQ] at qK;obtain⟨fr,zK⟩:=eE (T - 2*Y);rw[←zK] at qK;have zA:2*Y≤T:=by have:=qN.out;omega
    obtain⟨D,hD⟩:=eE (2*Y);have v1:IntKind.u64.wrap (2*(Y:Int))=(D:Int):=by rw[kB6];omega
    have v2:IntKind.u64.wrap ((T:Int) - (D:Int))=(fr:Int):=by rw[kB6];omega
    have qJ:Hid _:=qK;have HF:Hid _:=qC;have v3:Int.tdiv (Y:Int) (H:Int)=(Q:Int):=by rw[hQ];exact zL6 _ _
    have v4:IntKind.u64.wrap (Q:Int)=(Q:Int):=by
     have:Q≤Y:=by rw[hQ];exact kF9 _ _
     rw[kB6];omega
    have v5:((H:Int)==0)=false:=by rw[kN2];omega
    have zX:fr≤T:=ω;clear qK qC hQ zK zA hD zB hF
    go_upto_region 9 with fail
    go_upto_region 10 with fail;clear v1 v2
    go_cut [15] from 65 to 83 (fun v wx=>v=.bool ab∧wx=w6)
    case first =>
     by_cases L:H<fr
     ·have c1:(H:Int)<(fr:Int):=ω;have HA:Hid (ab=true):=(by rw[qJ.out,kF2 L];rfl:ab=true)
      go_wp2
      go_meet
      exact⟨by rw[HA.out],rfl⟩
     ·have c1:¬ (H:Int)<(fr:Int):=ω;by_cases x2:fr=H
      ·have c2:((fr:Int)==(H:Int))=true:=by rw[beq_iff_eq];omega
       cases is
       ·have HA:Hid (ab=true):=(by rw[qJ.out,kF2 x2];simp:ab=true)
        clear L x2 qJ HF
        go_wp2
        go_meet
        exact⟨by rw[HA.out],rfl⟩
       ·obtain⟨o,ho⟩:=eE (decide (Q % 2=1));have HA:Hid (ab=o):=(by rw[qJ.out,kF1 L,kF2 x2,ho];simp:ab=o)
        have v6:Int.tmod (Q:Int) 2=((Q % 2:Nat):Int):=by rw[Int.tmod_eq_emod_of_nonneg ω];omega
        have v7:IntKind.u64.wrap ((Q % 2:Nat):Int)=((Q % 2:Nat):Int):=by rw[kB6];omega
        have v8:(((Q % 2:Nat):Int)==1)=o:=by
         rw[ho];by_cases h:Q % 2=1
         ·rw[h];rfl
         ·rw[kF1 h,kN2];omega
        generalize Q % 2=q2 at *;clear L x2 ho qJ HF
        go_wp2
        go_meet
        exact⟨by rw[HA.out],rfl⟩
      ·have c2:((fr:Int)==(H:Int))=false:=by rw[kN2];omega
       have HA:Hid (ab=false):=(by rw[qJ.out,kF1 L,kF1 x2];rfl:ab=false)
       clear x2 L
       go_wp2
       go_meet
       exact⟨by rw[HA.out],rfl⟩
    case rest =>
    obtain⟨rfl,V⟩:=hcut;replace V:=V.symm;subst V;clear qJ v3 v4 v5 zX;obtain⟨cb,zJ⟩:=eE (decide (Y<LS∨(ab=true∧Y+H≤MS)));have HC:Hid _:=zJ;clear zJ
    go_upto_region 11 with fail
    go_cut [96] from 84 to 95 (fun v wx=>v=.bool cb∧wx=w6)
    case first =>
     by_cases L:Y<LS
     ·have c1:(Y:Int)<(LS:Int):=ω;have HA:Hid (cb=true):=(by rw[HC.out];exact kF2 (.inl L):cb=true)
      clear L
      go_wp2
      go_meet
      exact⟨by rw[HA.out],rfl⟩
     ·have c1:¬ (Y:Int)<(LS:Int):=ω;cases ab
      ·have HA:Hid (cb=false):=(by rw[HC.out];exact kF1 (fun h=>h.elim L (fun h=>absurd h.1 δ)):cb=false)
       clear L
       go_wp2
       go_meet
       exact⟨by rw[HA.out],rfl⟩
      ·by_cases x2:Y+H≤MS
       ·have c2:(Y:Int)+(H:Int)≤(MS:Int):=ω;have HA:Hid (cb=true):=(by rw[HC.out];exact kF2 (.inr ⟨rfl,x2⟩):cb=true)
        clear L x2
        go_wp2
        go_meet
        exact⟨by rw[HA.out],rfl⟩
       ·have c2:¬ (Y:Int)+(H:Int)≤(MS:Int):=ω;have HA:Hid (cb=false):=(by rw[HC.out];exact kF1 (fun h=>h.elim L (fun h=>x2 h.2)):cb=false)
        clear L x2
        go_wp2
        go_meet
        exact⟨by rw[HA.out],rfl⟩
    case rest =>
    obtain⟨rfl,V⟩:=hcut;replace V:=V.symm;subst V;have zP:Hid (F=if cb=true then Y+H else Y):=(by rw[HF.out,HC.out];simp only[decide_eq_true_eq]:F=if cb=true then Y+H else Y)
    clear HF HC;cases cb
    ·obtain rfl:F=Y:=zP.out
     go_wp2
     go_ret;exact⟨rfl,H6.out⟩
    ·obtain rfl:F=Y+H:=zP.out
     go_wp2
     go_ret;exact⟨by push_cast;rfl,H6.out⟩
end Go.Proofs.YtfkaogdmlcdceaaGreatDoor
namespace Go.Proofs.YtfkaogdmlcdceaaGreatDoor
open Go Go.RowKit Go.Fl64
attribute [local go_sem] iV Nu
def yD2 (a:Nat):Nat:=if mag a=0 then 1 else if neg a then a - 1 else a+1
theorem xU3 (a:Nat) (w:World) (J:(FloatKind.f64.format.order a a != some Ordering.eq)=false) (H:((a:Int)==9218868437227405312)=false) (V:(FloatKind.f64.format.order a 0==some Ordering.eq)=true) :
  Ca 248 #[.float .f64 a] w fun r w'=>r=.returned (.float .f64 1)∧w'=w:=by
 have Y:=Ie.run_bits;have u:=Ie.run_frombits
 go_enter Tryz.func248,Tryz.ntmps248
 go_wp2
 go_ret;exact⟨rfl,rfl⟩
theorem xU2 (a:Nat) (r:Int) (w:World) (J:(FloatKind.f64.format.order a a != some Ordering.eq)=false) (D:((a:Int)==9218868437227405312)=false) (F:(FloatKind.f64.format.order a 0==some Ordering.eq)=false) (H:(bits .and .u64 (a:Int) 9223372036854775808 != 0)=true) (V:IntKind.u64.wrap ((a:Int) - 1)=r) :
  Ca 248 #[.float .f64 a] w fun e w'=>e=.returned (.float .f64 r.toNat)∧w'=w:=by
 have Y:=Ie.run_bits;have u:=Ie.run_frombits
 go_enter Tryz.func248,Tryz.ntmps248
 go_wp2
 go_ret;exact⟨rfl,rfl⟩
theorem xU1 (a:Nat) (r:Int) (w:World) (J:(FloatKind.f64.format.order a a != some Ordering.eq)=false) (D:((a:Int)==9218868437227405312)=false) (F:(FloatKind.f64.format.order a 0==some Ordering.eq)=false) (H:(bits .and .u64 (a:Int) 9223372036854775808 != 0)=false) (V:IntKind.u64.wrap ((a:Int)+1)=r) :
  Ca 248 #[.float .f64 a] w fun e w'=>e=.returned (.float .f64 r.toNat)∧w'=w:=by
 have Y:=Ie.run_bits;have u:=Ie.run_frombits
 go_enter Tryz.func248,Tryz.ntmps248
 go_wp2
 go_ret;exact⟨rfl,rfl⟩
theorem yD1 (a:Nat) (F:a<18446744073709551616) (T:mag a<9218868437227405312) (w:World) :
  Ca 248 #[.float .f64 a] w fun r w'=>r=.returned (.float .f64 (yD2 a))∧w'=w:=by
 have L:qY9 a=false:=kF1 ω;have J:=zX3 a F;rw[L] at J;have H:((a:Int)==9218868437227405312)=false:=by
  rw[kN2];intro h;have:a=9218868437227405312:=ω
  rw[this] at T;revert T;decide
 have D:=zI6 F;have u:(FloatKind.f64.format.order a 0==some Ordering.eq)=decide (mag a=0):=by
  have:(FloatKind.f64.format.order a 0 != some Ordering.eq) = !(FloatKind.f64.format.order a 0==some Ordering.eq):=rfl
  rw[this] at D;revert D
  cases (FloatKind.f64.format.order a 0==some Ordering.eq) <;> cases decide (mag a=0) <;> simp
 have Y:(bits .and .u64 (a:Int) 9223372036854775808 != 0)=neg a:=by
  rw[yL4 a F];cases neg a <;> decide
 unfold yD2;by_cases V:mag a=0
 ·rw[kU6 V];rw[kF2 V] at u;exact xU3 a w J H u
 ·rw[kU5 V];rw[kF1 V] at u;cases hs:neg a
  ·rw[hs] at Y;have W:a<9223372036854775808:=by unfold neg at hs;simpa using hs
   rw[kU5 δ];exact xU1 a ((a+1:Nat):Int) w J H u Y (by rw[kB6];omega)
  ·rw[hs] at Y;have W:9223372036854775808≤a:=by unfold neg at hs;simpa using hs
   rw[kU6 rfl];exact xU2 a ((a - 1:Nat):Int) w J H u Y (by rw[kB6];omega)
theorem xJ4 {t:Bool×Nat×Int} {X:Value} {w:World} (J:Ok t) (h:PN w X t):Ca 127 #[X] w (Rq w (iV ((bl t.2.1:Nat)+t.2.2))):=by
 obtain⟨F,H,rfl,V⟩:=h;have f:=J.facts;refine xE0 t.1 F _ H t.2.2 _ w (fun W g T D=>?_) (fun L Y=>c75 (V.later Y) ω ω ω);have:=zQ0 D (V.later T) ω
 have u:=J;rw[u] at this;exact this
theorem xJ3 {A p b:Nat} (h:A<2^b) (u:A≠0) (V:b≤60000) (J:p≤60000) {W:World} {X:Value} (H:PN W X (un (A:Int) p)) :
  Ca 127 #[X] W (Rq W (iV ((bl A:Nat) - (p:Int)))):=by
 have k:=xJ4 (qH2 (nabs h) V J) H;have Y:=(qX0 _ _ lR u).1;have T:(un (A:Int) p).2.1=A / 2^tz A:=by unfold un cn;rw[kN1,kU5 u]
 have e2:(un (A:Int) p).2.2=(tz A:Int) - p:=by unfold un cn;rw[kN1,kU5 u];show -(p:Int)+(tz A:Int)=_;omega
 have hx:A / 2^tz A≠0:=by intro F;rw[F,Nat.mul_zero] at Y;omega
 have D:bl A=bl (A / 2^tz A)+tz A:=by
  have:=qI0 (x:=A / 2^tz A) (k:=tz A) hx
  rw[kN4,Y] at this;exact this
 rw[T,e2] at k;rw[D];rw[show((bl (A / 2^tz A)+tz A:Nat):Int) - (p:Int)=((bl (A / 2^tz A):Nat):Int)+((tz A:Int) - p) by push_cast;omega]
 exact k
theorem zW2 {R:Nat} (h:R<9218868437227405312) (W:World):(Op.unary UnOp.neg (Value.float .f64 R)).run Tryz.prog W=.ok (.float .f64 (R+9223372036854775808)) W:=by
 have u:Op.negFloat .f64 R=R+9223372036854775808:=by rw[Fl64.negF R ω];unfold Fl64.ngt Fl64.neg;simp;omega
 rw[←u];rfl
theorem zW1 {R:Nat} (h:R<9218868437227405312) (W:World):(Op.unary UnOp.neg (Value.float .f64 (R+9223372036854775808))).run Tryz.prog W=.ok (.float .f64 R) W:=by
 have u:Op.negFloat .f64 (R+9223372036854775808)=R:=by rw[Fl64.negF _ ω];unfold Fl64.ngt Fl64.neg;simp
 have Y:(Op.unary UnOp.neg (Value.float .f64 (R+9223372036854775808))).run Tryz.prog W=.ok (.float .f64 (Op.negFloat .f64 (R+9223372036854775808))) W:=rfl;rw[Y,u]
theorem Dprev {a:Nat} (V:0<a) (J:a<9218868437227405312) (w:World):Ca 201 #[.float .f64 a] w fun r w'=>r=.returned (.float .f64 (a - 1))∧w'=w:=by
 have Y:mag (a+9223372036854775808)=a:=by unfold mag;omega
 have k:=yD1 (a+9223372036854775808) ω (by rw[Y];exact J)
 have e:yD2 (a+9223372036854775808)=a - 1+9223372036854775808:=by
  unfold yD2;rw[Y,kU5 ω,kU6 (by unfold neg;exact kF2 ω)]
  omega
 rw[e] at k;have F:=zW2 J;have H:=zW1 (R:=a - 1) ω;generalize a - 1=c at *;clear e Y V J
 go_enter Tryz.func201,Tryz.ntmps201
 go_wp2_with (first|(go_at_call 248;refine(k _).mono ?_;rintro r w' ⟨rfl,u⟩;replace u:=u.symm;subst u))
 go_ret;exact⟨rfl,rfl⟩
def utF (a:Nat):Nat:=Ie.mk false 1 (Ie.lp a) 2 9221120237041090561
theorem Dunit {a:Nat} (Y:a<18446744073709551616) (J:mag a<9218868437227405312) (w:World):Ca 202 #[.float .f64 a] w fun r w'=>r=.returned (.float .f64 (utF a))∧w'=w:=by
 obtain⟨H,c2,-⟩:=qL7 J;have W:=fun V=>Ie.c9 a Y V;have T:=fun V=>Ie.c47 a Y V;have D:=fun V=>Ie.c24 false 1 (Ie.lp a) 2 ω V;have I:(cls a==1)=false:=by rw[kN2];exact H
 have C:(cls a==2)=false:=by rw[kN2];exact c2
 unfold utF;generalize cls a=c at *;generalize Ie.lp a=L at *;generalize Ie.mk false 1 L 2 9221120237041090561=F at *;clear H c2 Y J
 go_enter Tryz.func202,Tryz.ntmps202
 go_wp2_with (first|(go_at_call 74;refine(W _).mono ?_;rintro r w' ⟨rfl,u⟩;replace u:=u.symm;subst u)|(go_at_call 107;refine(T _).mono ?_;rintro r w' ⟨rfl,u⟩;replace u:=u.symm;subst u)|(go_at_call 122;refine(D _).mono ?_;rintro r w' ⟨rfl,u⟩;replace u:=u.symm;subst u))
 go_ret;exact⟨rfl,rfl⟩
def woX0 (A:Nat):Int:=((bl A:Nat) - (kP:Int) - 1)*1262611 / 4194304
def woX (A:Nat):Int:=if 0<unF (A:Int) (tnO (-woX0 A - 1)) (tnU (-woX0 A - 1))then woX0 A+1 else woX0 A
theorem yH6 {A:Nat} (h:A<2^bU) (u:A≠0):1≤bl A∧bl A≤2200:=by
 refine⟨?_,(qJ4 A bU).2 h⟩
 rcases Nat.lt_or_ge 0 (bl A)with h1|h1
 ·exact h1
 ·have:=(qJ4 A 0).1 h1
  rw[kN7] at this;omega
theorem yE0 {A:Nat} (h:A<2^bU) (u:A≠0) : -400≤woX0 A∧woX0 A≤400:=by
 have J:=yH6 h u;have Y:=qN5;unfold woX0;generalize kP=x at *;omega
theorem woX_b {A:Nat} (h:A<2^bU) (u:A≠0) : -400≤woX A∧woX A≤401:=by
 have:=yE0 h u
 unfold woX;split <;> omega
theorem kV4 {A:Nat} {X:Value} {w:World} (I:Tab32 w) (h:A<2^bU) (F:A≠0) (Y:PN w X (un (A:Int) kP)) :
  Ca 60 #[X] w (Rq w (iV (woX A))):=by
 obtain⟨L,H,C,V,e3,rfl⟩:=Y.shape;have hb:=yH6 h F;have hw:=yE0 h F;have hk:=qN5;obtain⟨T,t2,t3,t4⟩:=zO7 (pl := -woX0 A - 1) ω ω;have hF:=zD0 (Z:=(A:Int)) (k:=bU) (l:=dB) (nabs h) T t3;have k:=yL7 L H C V e3 ((bl A:Nat) - (kP:Int)) (woX0 A) (if unF (A:Int) (tnO (-woX0 A - 1)) (tnU (-woX0 A - 1))=0 then 0 else if unF (A:Int) (tnO (-woX0 A - 1)) (tnU (-woX0 A - 1))<0 then -1 else 1) (un ((tnO (-woX0 A - 1):Nat):Int) 0) (un ((tnU (-woX0 A - 1):Nat):Int) 0) (un (A:Int) kP) (un (unF (A:Int) (tnO (-woX0 A - 1)) (tnU (-woX0 A - 1))) 0) (unX (A:Int) (tnO (-woX0 A - 1)) (tnU (-woX0 A - 1))) w Y ω ω rfl
  (fun W J Y=>xJ3 (b:=bU) h F (by rw[qF2];omega) ω Y)
  (fun W J=>zL0 (I.later J) ω ω (fun n hn=>klen hn))
  (fun s1 qX n1 qZ e1 s2 qY n2 qQ e2 L H C V e3 W J q1 q2 q3=>zL3 (Z:=(A:Int)) (O:=tnO (-woX0 A - 1)) (U:=tnU (-woX0 A - 1)) (p:=kP) (k:=bU) (l:=dB) (I.later J) ⟨_,_,_,_,_,_,_,_,_,_,rfl,q1,q2⟩ q3 (nabs h) T t2 t3 dk1)
  (fun W X J Y=>qE5 hF (kM8 dk3) ω Y)
  (by show -1≤_∧_≤1;split <;> (try split) <;> omega)
 have e:(if 0<(if unF (A:Int) (tnO (-woX0 A - 1)) (tnU (-woX0 A - 1))=0 then(0:Int)else if unF (A:Int) (tnO (-woX0 A - 1)) (tnU (-woX0 A - 1))<0 then -1 else 1)then woX0 A+1 else woX0 A)=woX A:=by
  unfold woX;generalize unF (A:Int) (tnO (-woX0 A - 1)) (tnU (-woX0 A - 1))=u;by_cases D:u=0
  ·rw[kU6 D,D]
  ·rw[kU5 D];by_cases c2:u<0
   ·rw[kU6 c2,kU5 δ,kU5 ω]
   ·rw[kU5 c2,kU6 δ,kU6 ω]
 rw[e] at k;exact k
def kQ:Nat:=1075
theorem xA2:(kP:Int) - (-1)=kQ:=rfl
theorem kQ_n:kQ=kP+1:=rfl
def shX (a:Nat):Int:=woX (fU a)
def shO (a:Nat):Nat:=tnO (16 - shX a)
def shU (a:Nat):Nat:=tnU (16 - shX a)
def flQ (Z:Int) (a:Nat):Int:=Z*(shO a:Int) / ((shU a*2^kQ:Nat):Int)
def exq (Z:Int) (a:Nat):Bool:=decide (Z*(shO a:Int) % ((shU a*2^kQ:Nat):Int)=0)
def nrF (Z:Int):Nat:=tfF (un Z kQ).1 true (un Z kQ).2.1 (un Z kQ).2.2 2
def isR (Z:Int) (a:Nat):Bool:=(FloatKind.f64.format.order (nrF Z) a==some Ordering.eq)
def loZ (a:Nat):Int:=sZ (a - 1)+sZ a
def hiZ (a:Nat):Int:=sZ a*2+sZ (utF a)
def shN (a:Nat):Nat:=(flQ (loZ a) a).toNat
def shM (a:Nat):Nat:=(flQ (hiZ a) a).toNat
def shL (a:Nat):Nat:=if exq (loZ a) a&&isR (loZ a) a then shN a else shN a+1
def shH (a:Nat):Nat:=if exq (hiZ a) a && !isR (hiZ a) a then shM a - 1 else shM a
def shTz (a:Nat):Int:=sZ a*(shO a:Int) / ((shU a*2^kP1:Nat):Int)
def shT (a:Nat):Nat:=(shTz a).toNat
def shI (a:Nat):Bool:=decide (sZ a*(shO a:Int) % ((shU a*2^kP1:Nat):Int)=0)
structure ShOk (a:Nat):Prop where
 pos:0<a
 fin:a<9218868437227405312
 ut:utF a<9218868437227405312
 lo:0≤flQ (loZ a) a
 lo2:shN a<2305843009213693952
 hi:0<flQ (hiZ a) a
 hi2:shM a<2305843009213693952
 tw:0≤shTz a
 tw2:shT a<2305843009213693952
theorem qF9 {a:Nat} (h:a<9218868437227405312):mag a<9218868437227405312:=by unfold mag;omega
theorem ShOk.x {a:Nat} (h:ShOk a) : -400≤shX a∧shX a≤401:=by
 refine woX_b (qI9 a) ?_;intro Y;have V:mag a=a:=by unfold mag;have:=h.fin;omega
 have J:=Ie.mant_ne (a:=a) (by rw[V];have:=h.pos;omega)
 unfold fU at Y;rcases Nat.mul_eq_zero.1 Y with u|u
 ·exact J u
 ·exact absurd u (Nat.ne_of_gt (kF3 _))
theorem yK3 (a:Nat):(loZ a).natAbs<2^(bU+1+1):=by
 have Y:=qP4 (a - 1);have u:=qP4 a;unfold loZ;exact qM6 1 (zP1 Y u)
theorem yI9 (a:Nat):(hiZ a).natAbs<2^(bU+1+1):=by
 have J:=qP4 a;have Y:=qP4 (utF a);unfold hiZ;have u:(sZ a*2).natAbs<2^(bU+1):=by rw[kN5];omega
 exact zP1 u (qM6 1 Y)
theorem dk7:bU+1+1+dB+kQ≤60000:=by have J:=qN5;have Y:=qF2;have u:=qA7;rw[kQ_n];generalize kP=x at *; generalize bU=y at *; generalize dB=z at *; omega
theorem dk8:bU+1+1≤60000:=by have u:=qF2;generalize bU=y at *; omega
theorem dk9:kQ≤60000∧kP≤60000∧kP1≤60000:=by decide
theorem dkA:bU+dB+kP1≤60000:=by have J:kP1=1073:=rfl;have Y:=qF2;have u:=qA7;generalize kP1=x at *; generalize bU=y at *; generalize dB=z at *; omega
theorem zH2 {Z:Int} {a:Nat} {X:Value} {w:World} (T:Tab32 w) (F:Z.natAbs<2^(bU+1+1)) (u:PN w X (un Z kQ)) :
  Ca 203 #[X,.float .f64 a] w (Rq w (.bool (isR Z a))):=by
 obtain⟨V,J,H,Y,L,rfl⟩:=u.shape;exact zP5 V J H Y L (un Z kQ) a (nrF Z) (isR Z a) 0 w u (fun W D u=>xC6 (T.later D) (qH2 F dk8 dk9.1) u ω) rfl
theorem xM7 {a:Nat} {S:Value} {w:World} (F:Tab32 w) (hI:Ie.Tab w) (V:ShOk a) (hS:Fv w S (un ((shO a:Nat):Int) 0) (un ((shU a:Nat):Int) 0)) :
  Ca 139 #[.float .f64 a,S] w (Rq w (.tuple #[.int .u64 (shL a:Nat),.int .u64 (shH a:Nat)])):=by
 obtain⟨s1,C,n1,T,e1,s2,L,n2,D,e2,rfl,p1,p2⟩:=hS;have hx:=V.x;have H:=V.fin;have I:=V.pos;obtain⟨t1,t2,t3,t4⟩:=zO7 (pl:=16 - shX a) ω ω;have ha:a<18446744073709551616:=ω;have qQ:=V.ut;have fl:∀ (Z:Int),Z.natAbs<2^(bU+1+1)→∀ W X,Bw w W→PN W (.agg (Nu s1 C n1 T e1)) (un ((shO a:Nat):Int) 0)→PN W (.agg (Nu s2 L n2 D e2)) (un ((shU a:Nat):Int) 0)→PN W X (un Z kQ)→Ca 96 #[.agg #[.bool s1,.slice C n1 T,iV e1,.bool s2,.slice L n2 D,iV e2],X] W fun r w'=>zG9 W (un (flQ Z a) 0) (exq Z a) r w':=by
  intro Z hZ W X u q1 q2 J;exact zL3 (Z:=Z) (O:=shO a) (U:=shU a) (p:=kQ) (k:=bU+1+1) (l:=dB) (F.later u) ⟨_,_,_,_,_,_,_,_,_,_,rfl,q1,q2⟩ J hZ t1 t2 t3 dk7
 have wd:∀ (Z:Int),0≤flQ Z a→(flQ Z a).toNat<2305843009213693952→∀ W X,PN W X (un (flQ Z a) 0)→Ca 92 #[X] W (Rq W (.int .u64 ((flQ Z a).toNat:Nat))):=by
  intro Z h1 h2 W X J;rw[show flQ Z a=(((flQ Z a).toNat:Nat):Int) by omega] at J
  exact yL9 ω J
 refine yF8 a (a - 1) (utF a) s1 C n1 T e1 s2 L n2 D e2 _ _ (un (sZ a) kP) (un (sZ (a - 1)) kP) (un (loZ a) kP) (un (loZ a) kQ) (un (sZ (utF a)) kP) (un (sZ (utF a)) kQ) (un (hiZ a) kQ) (un (flQ (loZ a) a) 0) (un (flQ (hiZ a) a) 0) (exq (loZ a) a) (exq (hiZ a) a) (isR (loZ a) a) (isR (hiZ a) a) (shN a) (shM a) (shL a) (shH a) w rfl rfl p1 p2 (by have:=V.lo2;omega) (by have:=V.hi2;omega) (by show 0<shM a;have:=V.hi;unfold shM;omega) ?_ ?_ ?_ ?_ ?_ ?_ ?_ ?_ ?_ (fl _ (yK3 a)) ?_ ?_ (fl _ (yI9 a)) ?_ ?_
 ·intro W u;exact zZ0 (F.later u) (Tab.later hI u) ha (qF9 H)
 ·intro W;refine(Dprev I H W).mono ?_
  rintro r w' ⟨rfl,rfl⟩;exact⟨rfl,kH9 _ _⟩
 ·intro W u;exact zZ0 (F.later u) (Tab.later hI u) ω (qF9 ω)
 ·intro W X Y u J hY;exact qM1 (qE7 (p:=kP) (k:=bU) (qP4 _) (qP4 _) (by rw[qF2];omega) dk9.2.1) (F.later u) J hY
 ·intro W X u J;exact qP3 (b:=bU+1+1) (yK3 a) dk8 dk9.2.1 dk9.1 xA2 J
 ·intro W;refine(Dunit ha (qF9 H) W).mono ?_
  rintro r w' ⟨rfl,rfl⟩;exact⟨rfl,kH9 _ _⟩
 ·intro W u;exact zZ0 (F.later u) (Tab.later hI u) ω (qF9 qQ)
 ·intro W X u J;exact qP3 (b:=bU) (qP4 _) (by rw[qF2];omega) dk9.2.1 dk9.1 xA2 J
 ·intro W X Y u J hY;have e:=qU8 (sZ a) kP 1;rw[e] at J;exact qM1 (qE7 (p:=kQ) (k:=bU+1) (by have:=qP4 a;rw[kN5];omega) (qM6 1 (qP4 _)) (by rw[qF2];omega) dk9.1) (F.later u) J hY
 ·intro W X u J;exact wd _ V.lo V.lo2 W X J
 ·intro _ W X u J;exact zH2 (F.later u) (yK3 a) J
 ·intro W X u J;exact wd _ (Int.le_of_lt V.hi) V.hi2 W X J
 ·intro _ W X u J;exact zH2 (F.later u) (yI9 a) J
def fwS (L H T:Nat):Nat→Nat→Nat
 | 0,j=>j
 | n+1,j=>if 1<fwU j∧fwL T j<L∧H<fwL T j+fwU j then fwS L H T n (j+1)else j
theorem zT1 (L H T:Nat):∀ n j,n+j=16→(∀ i,i<j→1<fwU i∧fwL T i<L∧H<fwL T i+fwU i) →
  (∀ i,i<fwS L H T n j→1<fwU i∧fwL T i<L∧H<fwL T i+fwU i)∧¬ (1<fwU (fwS L H T n j)∧fwL T (fwS L H T n j)<L∧H<fwL T (fwS L H T n j)+fwU (fwS L H T n j)):=by
 intro n;induction n with
 | zero =>
  intro j u h;obtain rfl:j=16:=ω;exact⟨h,fun g=>absurd g.1 (by show ¬ 1<fwU 16;decide)⟩
 | succ n ih =>
  intro j u h;unfold fwS;by_cases c:1<fwU j∧fwL T j<L∧H<fwL T j+fwU j
  ·rw[kU6 c];refine ih (j+1) ω (fun i hi=>?_);by_cases e:i=j
   ·rw[e];exact c
   ·exact h i ω
  ·rw[kU5 c];exact⟨h,c⟩
def shJ (a:Nat):Nat:=fwS (shL a) (shH a) (shT a) 16 0
def shA (a:Nat):Bool:=decide (fwU (shJ a)<shT a - 2*fwL (shT a) (shJ a))||(decide (shT a - 2*fwL (shT a) (shJ a)=fwU (shJ a))&&(!shI a||decide (fwL (shT a) (shJ a) / fwU (shJ a) % 2=1)))
def shF (a:Nat):Nat:=if fwL (shT a) (shJ a)<shL a∨(shA a=true∧fwL (shT a) (shJ a)+fwU (shJ a)≤shH a)then fwL (shT a) (shJ a)+fwU (shJ a)else fwL (shT a) (shJ a)
theorem yQ7 {a:Nat} (u:ShOk a):shF a<18446744073709551616:=by
 have V:=yO0 (shT a) (shJ a);have J:=zT0 (shJ a);have Y:=u.tw2;unfold shF;split <;> omega
theorem xR1 {a:Nat} (u:ShOk a):shL a<4611686018427387904∧shH a<4611686018427387904:=by
 have J:=u.lo2;have Y:=u.hi2;unfold shL shH;constructor <;> split <;> omega
theorem xM9 {a:Nat} {X S:Value} {w:World} (D:Tab32 w) (hI:Ie.Tab w) (J:ShOk a) (u:PN w X (un (sZ a) kP)) (hS:Fv w S (un ((shO a:Nat):Int) 0) (un ((shU a:Nat):Int) 0)) :
  Ca 76 #[.float .f64 a,X,S] w (Rq w (.int .u64 (shF a:Nat))):=by
 obtain⟨s1,qZ,n1,C,e1,s2,qQ,n2,L,e2,rfl,p1,p2⟩:=hS;obtain⟨s3,I,n3,T,e3,rfl⟩:=u.shape;have hx:=J.x;obtain⟨t1,t2,t3,t4⟩:=zO7 (pl:=16 - shX a) ω ω;obtain⟨j1,j2⟩:=zT1 (shL a) (shH a) (shT a) 16 0 rfl (fun i hi=>absurd hi (Nat.not_lt_zero _));obtain⟨l1,l2⟩:=xR1 J;have qX:=J.tw;have qY:=J.tw2;refine yB2 a s1 qZ n1 C e1 s2 qQ n2 L e2 s3 I n3 T e3 _ _ _ (un (sZ a) kP1) (un (shTz a) 0) (un ((10^16:Nat):Int) 0) (shI a) (shA a) (shL a) (shH a) (shT a) (shJ a) (shF a) w p1 p2 u l1 l2 ω j1 j2 rfl rfl ?_ ?_ ?_ ?_ ?_ ?_
 ·intro W Y F H;exact xM7 (D.later Y) (Tab.later hI Y) J ⟨_,_,_,_,_,_,_,_,_,_,rfl,F,H⟩
 ·intro W X Y u;exact qP3 (b:=bU) (qP4 _) (by rw[qF2];omega) dk9.2.1 dk9.2.2 yI8 u
 ·intro W X Y F H u;exact zL3 (Z:=sZ a) (O:=shO a) (U:=shU a) (p:=kP1) (k:=bU) (l:=dB) (D.later Y) ⟨_,_,_,_,_,_,_,_,_,_,rfl,F,H⟩ u (qP4 a) t1 t2 t3 dkA
 ·intro W X Y u;rw[show shTz a=((shT a:Nat):Int) by unfold shT;omega] at u
  exact yL9 ω u
 ·intro W Y;exact zL2 (bs:=10) (n:=16) (b:=60) (D.later Y) ω ω ω δ ω (fun V=>c156 16 ω V)
 ·intro W X Y u;have e9:fwU 0=10000000000000000:=by decide
  rw[e9];have e8:(10:Nat)^16=10000000000000000:=by decide
  rw[e8] at u;exact yL9 (N:=10000000000000000) δ u
def shD (a:Nat):List UInt8:=Lib.trimRightB (dcT (shF a)) 48
def shE (a:Nat):Int:=(dcT (shF a)).length - 1 - (16 - shX a)
theorem zX1 {a:Nat} (u:ShOk a):(dcT (shF a)).length≤36:=by
 have:=zN4 (N:=shF a) (b:=64) (by rw[show(2:Nat)^64=18446744073709551616 from by decide];exact yQ7 u)
 omega
theorem zJ2 (L:List UInt8) (c:UInt8):(Lib.trimRightB L c).length≤L.length:=by
 unfold Lib.trimRightB;rw[List.length_reverse];have:=(List.dropWhile_sublist (fun x=>x==c) (l:=L.reverse)).length_le
 rw[List.length_reverse] at this;exact this
theorem zH1 {a:Nat} {w:World} (V:Tab32 w) (C:Ie.Tab w) (Y:ShOk a) :
  Ca 24 #[.float .f64 a] w (Rq w (.tuple #[.string ⟨(shD a).toArray⟩,iV (shE a)])):=by
 have hx:=Y.x;have H:=Y.fin;have L:=Y.pos;have F:neg a=false:=by unfold neg;exact kF1 ω
 have hz:sZ a=((fU a:Nat):Int):=by unfold sZ;rw[F];rfl
 have D:fU a≠0:=by
  intro I;have h1:mag a=a:=by unfold mag;omega
  have h2:=Ie.mant_ne (a:=a) (by rw[h1];omega)
  unfold fU at I;rcases Nat.mul_eq_zero.1 I with T|T
  ·exact h2 T
  ·exact absurd T (Nat.ne_of_gt (kF3 _))
 have hl:=zX1 Y;refine zP3 a (shX a) (shF a) (un (sZ a) kP) (un ((shO a:Nat):Int) 0) (un ((shU a:Nat):Int) 0) (un ((shF a:Nat):Int) 0) (dcT (shF a)) (shD a) w ω ω ?_ ?_ ?_ ?_ ?_ ?_ ?_
 ·intro W u;exact zZ0 (V.later u) (Tab.later C u) ω (qF9 H)
 ·intro W X u J;rw[hz] at J;exact kV4 (V.later u) (qI9 a) D J
 ·intro W u;exact zL0 (V.later u) ω ω (fun n F=>klen F)
 ·intro W X S u J hS;exact xM9 (V.later u) (Tab.later C u) Y J hS
 ·intro W u;exact yB0 (V.later u) (yQ7 Y)
 ·intro W X u J;exact qW1 (b:=64) (V.later u) (by rw[show(2:Nat)^64=18446744073709551616 from by decide];exact yQ7 Y) ω J
 ·intro W u;have:=Tryz.strings_TrimRight_one ⟨(dcT (shF a)).toArray⟩ 48 δ W (by show(dcT (shF a)).length≤_;omega)
  refine this.mono ?_;rintro r w' ⟨rfl,rfl⟩;exact⟨rfl,kH9 _ _⟩
def shS (a:Nat):List UInt8:=if shE a < -5∨20<shE a then exL (shD a) (Lib.itoa (shE a))else ptL (shD a) ((shD a).length - 1 - shE a)
theorem xF0 (d t:List UInt8):(exL d t).length≤d.length+t.length+3:=by
 unfold exL;rw[kM0,kM0,kG2,List.length_take];by_cases h:1<d.length
 ·rw[kU6 h,kG2,List.length_drop];omega
 ·rw[kU5 h,kG3];omega
theorem yQ6 {a:Nat} (u:(shD a).length≤36) (Y : -1000≤shE a∧shE a≤1000):(shS a).length≤20000:=by
 have H:=Lib.itoa_length_le (shE a) ω ω;have J:=xF0 (shD a) (Lib.itoa (shE a));have V:=zS6 (d:=shD a) (p:=(shD a).length - 1 - shE a);unfold shS;generalize shD a=D at *;generalize shE a=E at *;generalize Lib.itoa E=I at *;by_cases h:E < -5∨20<E
 ·rw[kU6 h];omega
 ·rw[kU5 h];omega
theorem zH3 {a:Nat} {w:World} (hT:Tab32 w) (hI:Ie.Tab w) (L:Tab10 w) (u:ShOk a) (hd:0<(shD a).length) :
  Ca 7 #[.float .f64 a] w (Rq w (.string ⟨(shS a).toArray⟩)):=by
 have J:=u.fin;have qQ:=u.pos;have hx:=u.x;have hl:=zX1 u;have F:(shD a).length≤36:=kF8 (zJ2 _ _) hl;have hE : -1000≤shE a∧shE a≤1000:=by unfold shE;omega
 obtain⟨c1,c2,c3⟩:=qL7 (qF9 J);have hn:neg a=false:=by unfold neg;exact kF1 ω
 have Y:=yQ6 F hE;have e:sgL (neg a) (shS a)=shS a:=by unfold sgL;rw[hn,kU5 δ]
 rw[←e];refine qH5 a _ w ?_;intro W g1 T b1;have I:=fun V=>Ie.c9 a ω V;rw[c3] at I;refine qB2 a _ _ (neg a) _ _ W c1 c2 Y I (qZ4 Tryz.func23 (by kernel_rfl) (by kernel_rfl)) ?_
 refine zH4 a a (shE a) (shD a) (shS a) g1 W b1 ?_ ω ω (fun V=>?_) ?_ ?_ ?_
 ·have H:=zI6 (a:=a) ω;have C:mag a≠0:=by unfold mag;omega
  rw[kF1 C] at H;have e9:(FloatKind.f64.format.order a 0 != some Ordering.eq) = !(FloatKind.f64.format.order a 0==some Ordering.eq):=rfl;rw[e9] at H;simpa using H
 ·have C:mag a=a:=by unfold mag;omega
  have:=c159 a ω V
  rw[C] at this;exact this
 ·exact zH1 (hT.later T) (Tab.later hI T) u
 ·intro D V hV;unfold shS;rw[kU6 D];exact zL4 (shD a) (Lib.itoa (shE a)) (shE a) V hd ω (by have:=Lib.itoa_length_le (shE a) ω ω;show(Lib.itoa (shE a)).length≤100;omega) (fun U hU=>xM8 ω (((L.later T).later hV).later hU))
 ·intro D V hV;unfold shS;rw[kU5 D];exact qC6 ω ω (knz V)
def rdA (s:List UInt8) (m:Int):Nat×Int :=
 if ¬ (1≤m∧m≤3) then(0,1)else if 1048576<s.length then(0,2)
 else if csD s = [105,110,102] then((if csS s<0 then 18442240474082181120 else 9218868437227405312),0)else if csD s = [110,97,110] then(9221120237041090561,0)
 else if psOk (csD s)=false then(0,3)else if 1100<(psD (csD s)).length then(0,2)
 else(rdFl (decide (csS s<0)) (psb (csD s)) (psD (csD s)) (psH (csD s)) (psX (csD s)) m,0)
theorem xO8 (E:List UInt8) : -6000≤exX E∧exX E≤6000:=by
 unfold exX;split
 ·have h:=yA7 (csD E) (csD E).length;have u:csS E=1∨csS E = -1:=by unfold csS;split <;> simp
  rcases u with Y|Y <;> rw[Y] <;> omega
 ·omega
theorem xC4 (L:List UInt8) : -6000≤psX L∧psX L≤6000:=by
 unfold psX;split
 ·exact xO8 _
 ·omega
theorem xC3 (L:List UInt8):(psb L=((10:Nat):Int)∧True)∨(psb L=((16:Nat):Int)∧True):=by
 unfold psb;split
 ·exact .inr ⟨rfl,trivial⟩
 ·exact .inl ⟨rfl,trivial⟩
theorem xJ6 {L:List UInt8} (h:psOk L=true):qD6 (psD L) (psb L)=true:=by
 unfold psOk at h;rw[kB9] at h;have u:=h.2;unfold dgO at u;rw[kB9] at u;exact u.1
theorem xC5 (L:List UInt8):psH L≤(psD L).length:=by unfold psH psD;rw[kM0];omega
theorem xP {s:List UInt8} {m:Int} {w:World} (hT:Tab32 w) :
  Ca 14 #[.string ⟨s.toArray⟩,iV m] w (Rq w (.tuple #[.float .f64 (rdA s m).1,iV (rdA s m).2])):=by
 unfold rdA;have k0:=yB1 m;by_cases J:1≤m∧m≤3
 ·rw[kU5 (not_not_intro J)];rw[kF2 J] at k0;by_cases hL:1048576<s.length
  ·rw[kU6 hL];exact zA7 s m w hL k0
  ·rw[kU5 hL];have V:=fun W=>zL5 s W ω;have qQ:=yG1 s;have L:csS s=1∨csS s = -1:=by unfold csS;split <;> simp
   by_cases T:csD s = [105,110,102]
   ·rw[kU6 T];refine yB5 s (csD s) m (csS s) _ w ω k0 V T (fun W=>?_);rcases L with e|e
    ·rw[e,kU5 δ];exact kX0 W
    ·rw[e,kU6 δ];exact xQ1 W
   ·rw[kU5 T];by_cases F:csD s = [110,97,110]
    ·rw[kU6 F];exact yB4 s (csD s) m (csS s) _ w ω k0 V F (fun W=>Ie.c52 W)
    ·rw[kU5 F];have g1:(csD s == [105,110,102])=false:=by rw[kN2];exact T
     have g2:(csD s == [110,97,110])=false:=by rw[kN2];exact F
     by_cases H:psOk (csD s)=false
     ·rw[kU6 H];refine zA8 s (csD s) m (csS s) w ω k0 V g1 g2 (fun W I=>?_);refine(xZ1 (csD s) W ω).mono ?_
      rintro r w' ⟨b',D,h,x,rfl,-,C⟩;exact⟨b',D,h,x,by rw[H],C⟩
     ·rw[kU5 H];have Y:psOk (csD s)=true:=by simpa using H
      have kS:∀ W,Ca 55 #[.string ⟨(csD s).toArray⟩] W (Rq W (.tuple #[.agg #[iV (psb (csD s)),.string ⟨(psD (csD s)).toArray⟩,iV (psH (csD s):Int),iV (psX (csD s))],.bool true])):=fun W=>by
       refine(xZ1 (csD s) W ω).mono ?_
       rintro r w' ⟨b',D,h,x,rfl,hh,C⟩;obtain⟨e1,e2,e3,e4⟩:=hh Y;exact⟨by rw[e1,e2,e3,e4,Y],C⟩
      by_cases h4:1100<(psD (csD s)).length
      ·rw[kU6 h4];exact zH5 s (csD s) (psD (csD s)) m (csS s) _ _ _ w ω k0 V g1 g2 (fun W _=>kS W) h4
      ·rw[kU5 h4];refine yC8 s (csD s) (psD (csD s)) m (csS s) _ _ _ w ω k0 V g1 g2 (fun W _=>kS W) _ ω (fun W I=>?_);have u:=xJ6 Y;have hx:=xC4 (csD s);have hh:=xC5 (csD s);rcases xC3 (csD s)with ⟨e,-⟩|⟨e,-⟩
       ·rw[e] at u ⊢;exact zL1 (hT.later I) (.inl rfl) u ω ω hx J
       ·rw[e] at u ⊢;exact zL1 (hT.later I) (.inr rfl) u ω ω hx J
 ·rw[kU6 J];rw[kF1 J] at k0;exact zA6 s m w k0
theorem wk_1:rdA [48,46,49] 2=(4591870180066957722,0):=by decide +kernel
theorem wk_2:rdA [45,49,101,45,52,48,48] 1=(9223372036854775809,0):=by decide +kernel
theorem wk_3:(rdA [49,120] 2).2=3:=by decide +kernel
theorem wk_4:sgL (neg 4612811918334230528) (ptL (dcT (uN 4612811918334230528 0 2)) 0) = [50]:=by decide +kernel
theorem wk_5:sgL (neg 4602678819172646912) (ptL (dcT (uN 4602678819172646912 (exP 4602678819172646912) 2)) (exP 4602678819172646912)) = [48,46,53]:=by decide +kernel
theorem wk_6:sgL (neg 4591870180066957722) (hxT 4591870180066957722) = [48,120,49,46,57,57,57,57,57,57,57,57,57,57,57,57,97,112,45,52]:=by decide +kernel
theorem wk_7:ShOk 4599075939470750515:=⟨δ,δ,by decide +kernel,by decide +kernel,by decide +kernel,by decide +kernel,by decide +kernel,by decide +kernel,by decide +kernel⟩
theorem wk_8:ShOk 4921056587992461136:=⟨δ,δ,by decide +kernel,by decide +kernel,by decide +kernel,by decide +kernel,by decide +kernel,by decide +kernel,by decide +kernel⟩
theorem wk_9:shS 4599075939470750515 = [48,46,51]∧0<(shD 4599075939470750515).length:=by decide +kernel
theorem wk_A:shS 4921056587992461136 = [49,101,50,49]∧0<(shD 4921056587992461136).length:=by decide +kernel
theorem Dlike (a b:Nat) (V:a<18446744073709551616) (J:b<18446744073709551616) (w:World) :
  Ca 15 #[.float .f64 a,.float .f64 b] w fun r w'=>r=.returned (.bool (same a b))∧w'=w:=by
 have H:=Ie.run_bits;have Y:=zX3 a V;have u:=zX3 b J;have e:same a b=(((a:Int)==(b:Int))||(qY9 a&&qY9 b)):=rfl;rw[e];clear e;cases ha':qY9 a
 ·rw[ha'] at Y;clear u ha'
  go_enter Tryz.func15,Tryz.ntmps15
  go_wp2
  go_ret;exact⟨by simp,rfl⟩
 ·rw[ha'] at Y;clear ha';cases hb':qY9 b
  ·rw[hb'] at u;clear hb'
   go_enter Tryz.func15,Tryz.ntmps15
   go_wp2
   go_ret;exact⟨by simp,rfl⟩
  ·rw[hb'] at u;clear hb'
   go_enter Tryz.func15,Tryz.ntmps15
   go_wp2
   go_ret;exact⟨by simp,rfl⟩
theorem zW0 (a:Nat):same a a=true:=by unfold same;simp
theorem yL8 (e3:Nat) (w:World)
  (k1:∀ W,Bw w W→Ca 14 #[.string ⟨#[48,46,49]⟩,iV 2] W (Rq W (.tuple #[.float .f64 4591870180066957722,iV 0])))
  (k2:∀ W,Bw w W→Ca 14 #[.string ⟨#[45,49,101,45,52,48,48]⟩,iV 1] W (Rq W (.tuple #[.float .f64 9223372036854775809,iV 0])))
  (k3:∀ W,Bw w W→Ca 14 #[.string ⟨#[49,120]⟩,iV 2] W (Rq W (.tuple #[.float .f64 e3,iV 3])))
  (k4:∀ W,Bw w W→Ca 50 #[.float .f64 4612811918334230528,iV 0,iV 2] W (Rq W (.tuple #[.string ⟨#[50]⟩,iV 0])))
  (k5:∀ W,Bw w W→Ca 7 #[.float .f64 4599075939470750515] W (Rq W (.string ⟨#[48,46,51]⟩)))
  (k6:∀ W,Bw w W→Ca 7 #[.float .f64 4921056587992461136] W (Rq W (.string ⟨#[49,101,50,49]⟩)))
  (k7:∀ W,Bw w W→Ca 11 #[.float .f64 4591870180066957722] W (Rq W (.string ⟨#[48,120,49,46,57,57,57,57,57,57,57,57,57,57,57,57,97,112,45,52]⟩)))
  (k8:∀ W,Bw w W→Ca 9 #[.float .f64 4602678819172646912] W (Rq W (.string ⟨#[48,46,53]⟩)))
  (m1:∀ W,Ca 15 #[.float .f64 4591870180066957722,.float .f64 4591870180066957722] W fun r w'=>r=.returned (.bool true)∧w'=W)
  (m2:∀ W,Ca 15 #[.float .f64 9223372036854775809,.float .f64 9223372036854775809] W fun r w'=>r=.returned (.bool true)∧w'=W) :
  Ca 13 #[] w (Rq w (.bool true)):=by
 have q1:=k1 w bR;have K2:Hid _:=k2;have K3:Hid _:=k3;have K4:Hid _:=k4;have K5:Hid _:=k5;have K6:Hid _:=k6;have K7:Hid _:=k7;have K8:Hid _:=k8;clear k1 k2 k3 k4 k5 k6 k7 k8
 go_enter Tryz.func13,Tryz.ntmps13
 go_wp2_with fail;refine q1.mono ?_;rintro r w1 ⟨rfl,T⟩;have L:Hid _:=T;have q2:=K2.out w1 T;clear q1 T K2
 go_wp2_with fail;refine q2.mono ?_;rintro r w2 ⟨rfl,b2⟩;have D:Hid _:=L.out.trans (b2.mono L.out.size);have q3:=K3.out w2 D.out;clear q2 b2 L K3
 go_wp2_with fail;refine q3.mono ?_;rintro r w3 ⟨rfl,b3⟩;have F:Hid _:=D.out.trans (b3.mono D.out.size);have q4:=K4.out w3 F.out;clear q3 b3 D K4
 go_wp2_with fail;refine q4.mono ?_;rintro r w4 ⟨rfl,b4⟩;have H:Hid _:=F.out.trans (b4.mono F.out.size);have q5:=K5.out w4 H.out;clear q4 b4 F K5
 go_wp2_with fail;refine(m1 _).mono ?_
 rintro r w' ⟨rfl,u⟩;replace u:=u.symm;subst u;clear m1
 go_wp2_with fail;refine(m2 _).mono ?_
 rintro r w' ⟨rfl,u⟩;replace u:=u.symm;subst u;clear m2
 go_wp2_with fail;refine q5.mono ?_;rintro r w5 ⟨rfl,b5⟩;have V:Hid _:=H.out.trans (b5.mono H.out.size);have q6:=K6.out w5 V.out;clear q5 b5 H K6
 go_wp2_with fail;refine q6.mono ?_;rintro r w6 ⟨rfl,b6⟩;have J:Hid _:=V.out.trans (b6.mono V.out.size);have I:=K7.out w6 J.out;clear q6 b6 V K7
 go_wp2_with fail;refine I.mono ?_;rintro r w7 ⟨rfl,b7⟩;have Y:Hid _:=J.out.trans (b7.mono J.out.size);have C:=K8.out w7 Y.out;clear I b7 J K8
 go_wp2_with fail;refine C.mono ?_;rintro r w8 ⟨rfl,b8⟩;have B8:Hid _:=Y.out.trans (b8.mono Y.out.size);clear C b8 Y
 go_wp2
 go_ret;exact⟨rfl,B8.out⟩
theorem kV5 {w:World} (J:Tab32 w) (H:Ie.Tab w) (V:Tab10 w):Ca 13 #[] w (Rq w (.bool true)):=by
 have Y:∀ a,a<18446744073709551616→∀ W,Ca 15 #[.float .f64 a,.float .f64 a] W fun r w'=>r=.returned (.bool true)∧w'=W:=fun a F W=>by
  have:=Dlike a a F F W
  rw[zW0] at this;exact this
 refine yL8 (rdA [49,120] 2).1 w ?_ ?_ ?_ ?_ ?_ ?_ ?_ ?_ (Y _ δ) (Y _ δ)
 ·intro W u;have:=xP (s := [48,46,49]) (m:=2) (J.later u)
  rw[wk_1] at this;exact this
 ·intro W u;have:=xP (s := [45,49,101,45,52,48,48]) (m:=1) (J.later u)
  rw[wk_2] at this;exact this
 ·intro W u;have:=xP (s := [49,120]) (m:=2) (J.later u)
  rw[wk_3] at this;exact this
 ·intro W u;have:=kU4 (a:=4612811918334230528) (pl:=0) (m:=2) (J.later u) (Tab.later H u) δ δ δ δ δ
  rw[wk_4] at this;exact this
 ·intro W u;have:=zH3 (J.later u) (Tab.later H u) (V.later u) wk_7 wk_9.2
  rw[wk_9.1] at this;exact this
 ·intro W u;have:=zH3 (J.later u) (Tab.later H u) (V.later u) wk_8 wk_A.2
  rw[wk_A.1] at this;exact this
 ·intro W u;have:=DHex (a:=4591870180066957722) (Tab.later H u) (V.later u) δ δ
  rw[wk_6] at this;exact this
 ·intro W u;have:=xZ2 (a:=4602678819172646912) (J.later u) (Tab.later H u) δ δ
  rw[wk_5] at this;exact this
end Go.Proofs.YtfkaogdmlcdceaaGreatDoor
