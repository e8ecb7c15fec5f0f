/- Own work: contracts of the program's functions, part 17: DDE DUA DUB DSA DDF DDG DDH DDI DRA DRB DRC DRD DRE DSB DSC DSD DRX DRF DRM DSE DRG DRH DSF FRI FS1 DSG. -/
import Derived.Test.YtfkaogdmlcdceaaGreatDoorA16
import Derived.Test.YtfkaogdmlcdceaaGreatDoorA9
import Derived.Test.YtfkaogdmlcdceaaGreatDoorA11
import Derived.Test.YtfkaogdmlcdceaaGreatDoorA12
import Derived.Test.YtfkaogdmlcdceaaGreatDoorA7
import Derived.Test.YtfkaogdmlcdceaaGreatDoorA6
import Derived.Test.YtfkaogdmlcdceaaGreatDoorA13

set_option maxHeartbeats 16000000
set_option maxRecDepth 200000
set_option linter.unusedVariables false
set_option linter.unusedSimpArgs false
namespace Go.Proofs.YtfkaogdmlcdceaaGreatDoor
open Go Go.RowKit Go.Fl64
attribute [local go_sem] iV Nu
theorem xQ5 {x n:Nat} (h:2^n≤x):n+1≤bl x:=by
 rcases Nat.lt_or_ge n (bl x)with h1|h1
 ·exact h1
 ·have:=(qJ4 x n).1 h1
  omega
theorem qI2 {x:Nat} (h:x≠0):2^(bl x - 1)≤x:=by
 rcases Nat.lt_or_ge x (2^(bl x - 1))with h1|h1
 ·have J:=(qJ4 x (bl x - 1)).2 h1;have Y:bl x=0:=ω;have u:=(qJ4 x 0).1 ω;rw[kN7] at u;omega
 ·exact h1
theorem xK1 {x y k:Nat} (hx:x≠0) (V:y≠0) (H:64+bl y≤bl x+k):64≤bl (x*2^k / y):=by
 have J:=qI2 hx;have D:y<2^bl y:=(qJ4 y (bl y)).1 lR;have T:1≤bl x:=by
  rcases Nat.lt_or_ge 0 (bl x)with h|h
  ·exact h
  ·have u:=(qJ4 x 0).1 ω;rw[kN7] at u;omega
 refine xQ5 (n:=63) ?_;rw[Nat.le_div_iff_mul_le ω];have Y:2^63*y≤2^63*2^bl y:=kB1 _ ω;have u:2^(bl x - 1)*2^k≤x*2^k:=kF5 _ J;rw[←kN3] at Y u;have F:(2:Nat)^(63+bl y)≤2^(bl x - 1+k):=kF4 δ ω;omega
theorem xD7 (ex:Bool) (q:Nat) (h:Int) (Y:64≤bl q) (J : -65535≤h):∃ (x:Nat) (e:Int),-65536≤e∧∀ (s:Bool) (m:Int),1≤m∧m≤3→tfF s ex q h m=sig s (bdy x e (wyN s m)):=by
 cases ex
 ·exact⟨2*q+1,h - 1,ω,fun s m u=>by rw[qN0 Y,qF5 u]⟩
 ·exact⟨q,h,ω,fun s m u=>qF5 u⟩
theorem xT4 {Z:Nat} {P U b c:Nat} (Y:Z≠0) (F:U≠0) (W:Z<2^b) (J:U<2^c) (hP:P+c≤60000):∃ (x:Nat) (e:Int),-65536≤e∧∀ (s:Bool) (m:Int),1≤m∧m≤3→rtF (un (if s then -(Z:Int) else(Z:Int)) P) (un (U:Int) 0) m=sig s (bdy x e (wyN s m)):=by
 have eU:un (U:Int) 0=(false,U / 2^tz U,(tz U:Int)):=by
  unfold un cn;rw[kN1,kU5 F,kF1 ω];simp
 have eZ:∀ s:Bool,un (if s then -(Z:Int) else(Z:Int)) P=(s,Z / 2^tz Z,(tz Z:Int) - (P:Int)):=by
  intro s;cases s
  ·rw[kU5 δ];unfold un cn;rw[kN1,kU5 Y,kF1 ω];simp;omega
  ·rw[kU6 rfl];unfold un cn;rw[Int.natAbs_neg,kN1,kU5 Y,kF2 ω];simp;omega
 have sU:=(qX0 _ _ lR F).1;have u:=(qX0 _ _ lR Y).1;have hx:Z / 2^tz Z≠0:=by intro V;rw[V,Nat.mul_zero] at u;omega
 have H:U / 2^tz U≠0:=by intro V;rw[V,Nat.mul_zero] at sU;omega
 have qQ:bl U=bl (U / 2^tz U)+tz U:=by
  have:=qI0 (x:=U / 2^tz U) (k:=tz U) H
  rw[kN4,sU] at this;exact this
 have L:=(qJ4 U c).2 J;generalize U / 2^tz U=y at *;generalize Z / 2^tz Z=x at *;have T:64+bl y≤bl x+(max 0 (64+(bl y:Int) - (bl x:Int))).toNat:=ω;obtain⟨X,e,I,C⟩:=xD7 (decide (x*2^(max 0 (64+(bl y:Int) - (bl x:Int))).toNat % y=0)) (x*2^(max 0 (64+(bl y:Int) - (bl x:Int))).toNat / y) ((tz Z:Int) - (P:Int) - (tz U:Int) - (max 0 (64+(bl y:Int) - (bl x:Int))).toNat) (xK1 hx H T) ω;refine⟨X,e,I,fun s m D=>?_⟩
 rw[eU,eZ s];unfold rtF rtK;rw[←C s m D];simp
def RdN (c P Q:Nat):Prop:=((bv (c - 1)+bv c)*Q<P∨((bv (c - 1)+bv c)*Q=P∧c % 2=0))∧(P<(bv c+bv (c+1))*Q∨(P=(bv c+bv (c+1))*Q∧c % 2=0))
theorem zF8 {A u b c:Nat} (H:0<u) (h:Rounds A u b 1) (I:0<c):b=c↔RdN c (2*A) u:=by
 obtain⟨Y,⟨l,g⟩,-,-,V⟩:=h.fl;replace V:=V rfl;unfold RdN;have C:=qN7 Y;have F:bv (c - 1)<bv c:=zY9 ω;have m2:=qN7 c;rcases Nat.lt_trichotomy Y (c - 1)with h1|h1|h1
 ·have k1:bv (Y+1)≤bv (c - 1):=yH0 ω;have T:bv (Y+1)*u≤bv (c - 1)*u:=kF5 _ k1;have D:=kM4 F H;have W:b≤Y+1:=by rw[V];split;omega;split;omega;omega
  rw[Nat.add_mul (bv (c - 1))];constructor
  ·intro e;omega
  ·rintro⟨J|⟨J,-⟩,-⟩ <;> omega
 ·obtain rfl:c=Y+1:=ω;rw[show Y+1 - 1=Y by omega] at *
  have T:=kM4 m2 H;rw[V,Nat.add_mul (bv (Y+1))];split
  ·constructor
   ·intro e;omega
   ·rintro⟨J|⟨J,-⟩,-⟩ <;> omega
  ·split
   ·constructor
    ·intro e;exact⟨.inr ⟨ω,ω⟩,.inl ω⟩
    ·rintro⟨J|⟨J,L⟩,-⟩ <;> omega
   ·constructor
    ·intro e;exact⟨.inl ω,.inl ω⟩
    ·intro _;rfl
 ·rcases Nat.lt_or_ge c Y with J|J
  ·have k1:bv (c+1)≤bv Y:=yH0 ω;have T:bv (c+1)*u≤bv Y*u:=kF5 _ k1;have D:=kM4 m2 H;have W:Y≤b:=by rw[V];split;omega;split;omega;omega
   rw[Nat.add_mul (bv c)];constructor
   ·intro e;omega
   ·rintro⟨-,J|⟨J,-⟩⟩ <;> omega
  ·obtain rfl:c=Y:=ω;have D:=kM4 F H;rw[V,Nat.add_mul (bv (c - 1))];split
   ·constructor
    ·intro _;exact⟨.inl ω,.inl (by assumption)⟩
    ·intro _;rfl
   ·split
    ·constructor
     ·intro e;exact⟨.inl ω,.inr ⟨by assumption,ω⟩⟩
     ·rintro⟨-,J|⟨J,L⟩⟩ <;> omega
    ·constructor
     ·intro e;omega
     ·rintro⟨-,J|⟨J,L⟩⟩ <;> omega
theorem RdN.scale {c P Q k:Nat} (Y:0<k):RdN c (P*k) (Q*k)↔RdN c P Q:=by
 have u:∀ L:Nat,(L*(Q*k)<P*k↔L*Q<P)∧(L*(Q*k)=P*k↔L*Q=P)∧(P*k<L*(Q*k)↔P<L*Q)∧(P*k=L*(Q*k)↔P=L*Q):=by
  intro L;rw[←kN6];refine⟨Nat.mul_lt_mul_right Y,⟨fun h=>Nat.eq_of_mul_eq_mul_right Y h,fun h=>by rw[h]⟩,Nat.mul_lt_mul_right Y,⟨fun h=>Nat.eq_of_mul_eq_mul_right Y h,fun h=>by rw[h]⟩⟩
 unfold RdN;obtain⟨H,a2,-,-⟩:=u (bv (c - 1)+bv c);obtain⟨-,-,V,J⟩:=u (bv c+bv (c+1));rw[H,a2,V,J]
theorem zK1 {K:Nat} (V:70000≤K) {x:Nat} {e:Int} {c:Nat} (hx:x≠0) (u : -65536≤e) (J:0<c) (Y:c<9218868437227405312):bdy x e 1=c↔RdN c (2*VA K x e) (UU K):=by
 rw[←zF8 (xQ8 K) (yF4 V hx u) J];unfold bdy;rw[kU5 hx];split
 ·exact Iff.rfl
 ·rw[kU5 δ];constructor
  ·intro h;omega
  ·intro h;omega
theorem RdN.cross {c P Q Y u s t:Nat} (V:0<s) (J:0<t) (F:P*s=Y*t) (H:Q*s=u*t):RdN c P Q↔RdN c Y u:=by
 rw[←RdN.scale (c:=c) (P:=P) (Q:=Q) V,←RdN.scale (c:=c) (P:=Y) (Q:=u) J,F,H]
theorem yO1 {T y G u:Nat} (J:0<y) (hG:y<G) (H:G ∣ T) (V:G ∣ u) (L:Nat):(L*u<T / y↔L*(u*y)<T)∧(L*u=T / y↔L*(u*y)=T)∧(T / y<L*u↔T<L*(u*y))∧(T / y=L*u↔T=L*(u*y)):=by
 obtain⟨Y,rfl⟩:=H;obtain⟨v,rfl⟩:=V;have W:L*(G*v*y)=G*(L*v*y):=by rw[kN6 G,Nat.mul_left_comm L,kN6 L]
 have e2:L*(G*v)*y=L*(G*v*y):=kN6 ..;have C:G*Y / y<L*(G*v)↔G*Y<L*(G*v*y):=by rw[kM6 J,e2]
 have I:L*(G*v)<G*Y / y↔L*(G*v*y)<G*Y:=by
  constructor
  ·intro h;have:=(Nat.le_div_iff_mul_le J).1 h
   rw[Nat.succ_mul,e2] at this;omega
  ·intro h;refine(Nat.le_div_iff_mul_le J).2 ?_
   rw[Nat.succ_mul,e2];rw[W] at h ⊢;have D:L*v*y<Y:=Nat.lt_of_mul_lt_mul_left h;have F:G*(L*v*y+1)≤G*Y:=kB1 G D;rw[Nat.mul_add] at F;omega
 have a2:L*(G*v)=G*Y / y↔L*(G*v*y)=G*Y:=ω;exact⟨I,a2,C,ω⟩
theorem RdN.fl {c T y G u:Nat} (Y:0<y) (H:y<G) (V:G ∣ T) (J:G ∣ u):RdN c (T / y) u↔RdN c T (u*y):=by
 obtain⟨L,a2,-,-⟩:=yO1 Y H V J (bv (c - 1)+bv c);obtain⟨-,-,D,F⟩:=yO1 Y H V J (bv c+bv (c+1));unfold RdN;rw[L,a2,D,F]
theorem qH0 (n:Nat):0<2^n:=kF3 n
theorem pe {a b:Nat} (h:a=b):(2:Nat)^a=2^b:=by rw[h]
theorem xU6 {c x y q k P u tz p K E:Nat} (V:q*y=x*2^k) (J:0<y) (H:p≤K) (F:E+P+u+k=tz+K):RdN c (2*(q*2^E)) (2^(K - p))↔RdN c (2*(x*2^tz)*2^p) (y*2^u*2^P):=by
 refine RdN.cross (s:=y*2^(P+u)) (t:=2^(K - p)) (Nat.mul_pos J (qH0 _)) (qH0 _) ?_ ?_
 ·have Y:2*(q*2^E)*(y*2^(P+u))=2*(q*y)*(2^E*2^(P+u)):=by ac_rfl
  have e2:2*(x*2^tz)*2^p*2^(K - p)=2*x*(2^tz*2^p*2^(K - p)):=by ac_rfl
  rw[Y,V,e2,←kN3,←kN3,←kN3,←kN6,kN6,←kN3];rw[pe (show k+(E+(P+u))=tz+p+(K - p) by omega)]
 ·have Y:y*2^u*2^P*2^(K - p)=2^(K - p)*(y*(2^P*2^u)):=by ac_rfl
  rw[Y,←kN3]
theorem xU5 {c x y k D P u tz p K E b:Nat} (Y:0<y) (J:y<2^b) (V:b≤k+D) (I:E+1+p+b≤K) (W:p≤K) (C:E+D+P+u+k=tz+K):RdN c (2*(x*2^(k+D) / y*2^E)) (2^(K - p))↔RdN c (2*(x*2^tz)*2^p) (y*2^u*2^P):=by
 have L:2*(x*2^(k+D) / y*2^E)=x*2^(k+D) / y*2^(E+1):=by rw[kN5];ac_rfl
 have T:2^(K - p)=2^(K - p - (E+1))*2^(E+1):=by rw[←kN3];exact pe ω
 rw[L,T,RdN.scale (qH0 _),RdN.fl (G:=2^b) Y J (Nat.dvd_trans (Nat.pow_dvd_pow 2 V) (Nat.dvd_mul_left _ _)) (Nat.pow_dvd_pow 2 ω)];refine RdN.cross (s:=2^(1+p+tz)) (t:=2^(k+D)) (qH0 _) (qH0 _) ?_ ?_
 ·have e2:2*(x*2^tz)*2^p*2^(k+D)=x*2^(k+D)*(2^1*2^p*2^tz):=by rw[Nat.pow_one];ac_rfl
  rw[e2,←kN3,←kN3]
 ·have F:y*2^u*2^P*2^(k+D)=(2^u*2^P*2^(k+D))*y:=by ac_rfl
  have H:2^(K - p - (E+1))*y*2^(1+p+tz)=2^(K - p - (E+1))*2^(1+p+tz)*y:=by ac_rfl
  rw[F,H,←kN3,←kN3,←kN3];rw[pe (show K - p - (E+1)+(1+p+tz)=u+P+(k+D) by omega)]
theorem yQ2 (b:Nat):sig false b=b:=rfl
theorem qB8 (Z P:Nat) (u:Z≠0):un (Z:Int) P=(false,Z / 2^tz Z,(tz Z:Int) - (P:Int)):=by
 unfold un cn;rw[kN1,kU5 u,kF1 ω];simp;omega
theorem xK0 {Z P U b c d:Nat} (hZ:Z≠0) (hU:U≠0) (qX:Z<2^b) (qQ:U<2^d) (hP:P+2*d≤60000) (hc:0<c) (V:c<9218868437227405312):rtF (un (Z:Int) P) (un (U:Int) 0) 2=c↔RdN c (2*Z*2^kP) (U*2^P):=by
 have J:=qN5;obtain⟨K,hK⟩:∃ K:Nat,K=300000:=⟨_,rfl⟩;have sU:=(qX0 _ _ lR hU).1;have u:=(qX0 _ _ lR hZ).1;have hx:Z / 2^tz Z≠0:=by intro H;rw[H,Nat.mul_zero] at u;omega
 have hy:U / 2^tz U≠0:=by intro H;rw[H,Nat.mul_zero] at sU;omega
 have qJ:bl U=bl (U / 2^tz U)+tz U:=by
  have:=qI0 (x:=U / 2^tz U) (k:=tz U) hy
  rw[kN4,sU] at this;exact this
 have qY:=(qJ4 U d).2 qQ;rw[qB8 Z P hZ,qB8 U 0 hU];rw[kN4] at sU u;generalize U / 2^tz U=y at *;generalize Z / 2^tz Z=x at *;generalize tz U=tu at *;generalize tz Z=tZ at *;have F:y<2^bl y:=(qJ4 y (bl y)).1 lR;unfold rtF rtK;show tfF (false != false) (decide (x*2^(max 0 (64+(bl y:Int) - (bl x:Int))).toNat % y=0)) (x*2^(max 0 (64+(bl y:Int) - (bl x:Int))).toNat / y) ((tZ:Int) - (P:Int) - ((tu:Int) - ((0:Nat):Int)) - ((max 0 (64+(bl y:Int) - (bl x:Int))).toNat:Int)) 2=c↔_
 have hk:64+bl y≤bl x+(max 0 (64+(bl y:Int) - (bl x:Int))).toNat:=ω;have qZ:(max 0 (64+(bl y:Int) - (bl x:Int))).toNat≤64+bl y:=ω;generalize (max 0 (64+(bl y:Int) - (bl x:Int))).toNat=k at *;have hq:=xK1 hx hy hk;have I:x*2^k / y≠0:=by intro H;rw[H] at hq;exact absurd hq δ
 rw[←u,←sU];have hf:(false != false)=false:=rfl;rw[hf];by_cases C:x*2^k % y=0
 ·rw[kF2 C,qF5 ω,yQ2];show bdy _ _ 1=c↔_
  rw[zK1 (K:=K) ω I ω hc V];unfold VA UU;rw[←J];refine xU6 (k:=k) ?_ ω ω ?_
  ·exact Nat.div_mul_cancel (Nat.dvd_of_mod_eq_zero C)
  ·omega
 ·rw[kF1 C];obtain⟨D,hD⟩:∃ D:Nat,D=(max 0 ((tZ:Int) - (P:Int) - ((tu:Int) - ((0:Nat):Int)) - (k:Int)+1075)).toNat+bl y:=⟨_,rfl⟩;have W:x*2^k % y<y:=kB3 _ ω;have hw:x*2^(k+D) / y=x*2^k / y*2^D+x*2^k % y*2^D / y:=by
   have e1:x*2^(k+D)=x*2^k % y*2^D+x*2^k / y*2^D*y:=by
    have e2:=Nat.mod_add_div (x*2^k) y;rw[kN3,←kN6];have e3:x*2^k / y*2^D*y=(y*(x*2^k / y))*2^D:=by ac_rfl
    rw[e3,←Nat.add_mul,e2]
   rw[e1,Nat.add_mul_div_right _ _ ω,kH5]
  have qK:2^bl y≤2^D:=kF4 δ ω;have Y:x*2^k % y*2^D / y≠0:=by
   have:1*2^D≤x*2^k % y*2^D:=kF5 _ ω
   have:=(Nat.le_div_iff_mul_le (show 0<y by omega)).2 (show 1*y≤x*2^k % y*2^D by omega)
   omega
  have L:x*2^k % y*2^D / y<2^D:=by
   rw[kM6 ω,kN4];exact Nat.mul_lt_mul_of_pos_left W (qH0 D)
  rw[xX3 hq Y L,←hw,qF5 ω,yQ2];have T:x*2^(k+D) / y≠0:=by rw[hw];exact Nat.ne_of_gt (kF6 (kB0 Y) (Nat.le_add_left _ _))
  show bdy _ _ 1=c↔_
  rw[zK1 (K:=K) ω T ω hc V];unfold VA UU;rw[←J];exact xU5 (k:=k) (b:=bl y) ω F ω ω ω ω
def dcF:Nat→Nat→List UInt8
 | 0,_ => []
 | f+1,N=>if N=0 then [] else dcF f (N / 10) ++ [UInt8.ofNat (48+N % 10)]
def dcR (N:Nat):List UInt8:=dcF (N+1) N
theorem yO6:∀ (f g N:Nat),N<10^f→N<10^g→dcF f N=dcF g N
 | 0,g,N,h1,h2=>by
  have:N=0:=by rw[kN7] at h1;omega
  subst this;cases g <;> simp[dcF]
 | f+1,0,N,h1,h2=>by
  have:N=0:=by rw[kN7] at h2;omega
  subst this;simp[dcF]
 | f+1,g+1,N,h1,h2=>by
  unfold dcF;rw[kN5] at h1 h2;rw[yO6 f g (N / 10) ω ω]
theorem yK0 (N:Nat):N<10^N:=Nat.lt_pow_self δ
theorem xF9 {f N:Nat} (h:N<10^f):dcF f N=dcR N:=yO6 f (N+1) N h (kF6 (yK0 N) (kF4 δ ω))
theorem kQ5:dcR 0 = []:=rfl
theorem qT0 {N:Nat} (h:N≠0):dcR N=dcR (N / 10) ++ [UInt8.ofNat (48+N % 10)]:=by
 have u:N<10^(N+1):=kF6 (yK0 N) (kF4 δ ω);rw[←xF9 u];unfold dcF;rw[kU5 h];congr 1
 exact xF9 (kF7 (kF9 _ _) (yK0 N))
theorem zX8 (N c:Nat):ldL N (c+1)=ldL (N / 10) c ++ [UInt8.ofNat (48+N % 10)]:=by
 unfold ldL;rw[List.range_succ,List.map_append];congr 1
 ·apply List.map_congr_left
  intro j Y;have u:=List.mem_range.1 Y;unfold ldB;rw[show c+1 - 1 - j=(c - 1 - j)+1 by omega,Nat.pow_succ',←kN0]
 ·simp[ldB]
theorem zO2 (A:List UInt8) (x:UInt8):Lib.trimLeftB (A ++ [x]) 48=if Lib.trimLeftB A 48 = [] then(if x=48 then [] else [x])else Lib.trimLeftB A 48 ++ [x]:=by
 induction A with
 | nil =>
  unfold Lib.trimLeftB;by_cases h:x=48
  ·simp[h]
  ·simp[h]
 | cons a A ih =>
  by_cases h:a=48
  ·have u:Lib.trimLeftB (a :: A ++ [x]) 48=Lib.trimLeftB (A ++ [x]) 48:=by unfold Lib.trimLeftB;simp[h]
   have e2:Lib.trimLeftB (a :: A) 48=Lib.trimLeftB A 48:=by unfold Lib.trimLeftB;simp[h]
   rw[u,e2,ih]
  ·have u:Lib.trimLeftB (a :: A ++ [x]) 48=a :: A ++ [x]:=by unfold Lib.trimLeftB;simp[h]
   have e2:Lib.trimLeftB (a :: A) 48=a :: A:=by unfold Lib.trimLeftB;simp[h]
   rw[u,e2,kU5 (by simp)]
theorem zY5 {N:Nat}:dcR N = []↔N=0:=by
 constructor
 ·intro h;apply Classical.byContradiction
  intro u;rw[qT0 u] at h;simp at h
 ·intro h;rw[h];rfl
theorem zD3:∀ (c N:Nat),N<10^c→Lib.trimLeftB (ldL N c) 48=dcR N
 | 0,N,h=>by
  have:N=0:=by rw[kN7] at h;omega
  subst this;rfl
 | c+1,N,h=>by
  rw[kN5] at h;rw[zX8,zO2,zD3 c (N / 10) ω];by_cases V:N=0
  ·subst V;rw[kU6 (zY5.2 ω)];rfl
  ·rw[qT0 V];by_cases Y:N / 10=0
   ·rw[kU6 (zY5.2 Y),Y,kQ5,kG9,kU5];intro u;have J:=kU7 UInt8.toNat u;rw[UInt8.toNat_ofNat_of_lt' (show 48+N % 10<256 by omega)] at J
    have:N % 10=0:=by simpa using J
    omega
   ·rw[kU5 (fun u=>Y (zY5.1 u))]
theorem xG5 (N a b:Nat):ldL (N / 10^b) a++ldL N b=ldL N (a+b):=by
 induction b generalizing N with
 | zero =>
  have:ldL N 0 = []:=rfl
  rw[this,List.append_nil,kN7,Nat.div_one,kH7]
 | succ b ih =>
  rw[zX8,←List.append_assoc,show a+(b+1)=(a+b)+1 by omega,zX8,←ih (N / 10)]
  congr 3
  rw[kN0,Nat.pow_succ']
theorem xG4 {N c d:Nat} (h:c≤d):ldL (N % 10^d) c=ldL N c:=by
 unfold ldL;apply List.map_congr_left
 intro j Y;have u:=List.mem_range.1 Y;unfold ldB;congr 2
 have J:10^(c - 1 - j)*10 ∣ 10^d:=by
  rw[←kN5];exact Nat.pow_dvd_pow 10 ω
 rw[←Nat.mod_mul_right_div_self,←Nat.mod_mul_right_div_self,Nat.mod_mod_of_dvd _ J]
theorem zI1 (N:Nat):∀ k,wtL N k=ldL N (18*k)
 | 0=>rfl
 | k+1=>by
  unfold wtL;rw[zI1 N k,xG4 (kH8 18),show 18*(k+1)=18+18*k by omega]
  exact xG5 N 18 (18*k)
theorem yU5 (N:Nat):dcT N=dcR N:=by
 unfold dcT;rw[zI1];exact zD3 _ N (zY3 N N lR).1
theorem zZ7 {a:Nat} (h:a≤9218868437227405312):stp a=(a:Int):=by
 have Y:neg a=false:=by unfold neg;exact kF1 ω
 have u:mag a=a:=by unfold mag;omega
 unfold stp sgn;rw[Y,u];rfl
theorem lt_pos {a b:Nat} (Y:a≤9218868437227405312) (u:b≤9218868437227405312):lt a b=decide (a<b):=by
 have V:qY9 a=false:=by unfold qY9 mag;exact kF1 ω
 have J:qY9 b=false:=by unfold qY9 mag;exact kF1 ω
 have H:=zZ7 Y;have e2:=zZ7 u;unfold lt;rw[V,J,H,e2];by_cases h:a<b
 ·rw[kF2 h,kF2 ω];rfl
 ·rw[kF1 h,kF1 ω];rfl
theorem yO3 {a b:Nat} (Y:a≤9218868437227405312) (u:b≤9218868437227405312):eq a b=decide (a=b):=by
 have V:qY9 a=false:=by unfold qY9 mag;exact kF1 ω
 have J:qY9 b=false:=by unfold qY9 mag;exact kF1 ω
 have H:=zZ7 Y;have e2:=zZ7 u;unfold eq;rw[V,J,H,e2];by_cases h:a=b
 ·rw[kF2 h,kF2 ω];rfl
 ·rw[kF1 h,kF1 ω];rfl
end Go.Proofs.YtfkaogdmlcdceaaGreatDoor
namespace Go.Proofs.YtfkaogdmlcdceaaGreatDoor
open Go.RowKit Go.Fl64
attribute [local go_sem] iV Nu
end Go.Proofs.YtfkaogdmlcdceaaGreatDoor
namespace Go.Proofs.YtfkaogdmlcdceaaGreatDoor
open Go Go.RowKit Go.Fl64
attribute [local go_sem] iV Nu
theorem yT0 (F:Nat) (s:Bool) (w:World)
  (Y:∀ W,Ca 80 #[.float .f64 F] W fun r w'=>r=.returned (.bool s)∧w'=W)
  (H:(FloatKind.f64.format.order F F != some Ordering.eq)=false) (V:(FloatKind.f64.format.order F 9218868437227405311==some Ordering.gt)=false)
  (J:(FloatKind.f64.format.order F 18442240474082181119==some Ordering.lt)=false) :
  Ca 27 #[.float .f64 F] w fun r w'=>r=.returned (.tuple #[.string (if s then⟨#[45]⟩ else⟨#[]⟩),.bool false])∧w'=w:=by
 cases s
 ·go_enter Tryz.func27,Tryz.ntmps27
  go_wp2_with (go_at_call 80;refine(Y _).mono ?_;rintro r w' ⟨rfl,u⟩;replace u:=u.symm;subst u)
  refine kB8 (kM3 rfl _ _ _) rfl ?_;exact⟨rfl,rfl⟩
 ·go_enter Tryz.func27,Tryz.ntmps27
  go_wp2_with (go_at_call 80;refine(Y _).mono ?_;rintro r w' ⟨rfl,u⟩;replace u:=u.symm;subst u)
  refine kB8 (kM3 rfl _ _ _) rfl ?_;exact⟨rfl,rfl⟩
theorem zT5 {F:Nat} (u:F<18446744073709551616) (J:mag F<9218868437227405312) (w:World) :
  Ca 27 #[.float .f64 F] w fun r w'=>r=.returned (.tuple #[.string (if neg F then⟨#[45]⟩ else⟨#[]⟩),.bool false])∧w'=w:=by
 have V : -9218868437227405311≤stp F∧stp F≤9218868437227405311:=by
  unfold stp sgn;split <;> omega
 have Y:stp 9218868437227405311=9218868437227405311:=by decide
 have e2:stp 18442240474082181119 = -9218868437227405311:=by decide
 refine yT0 F (neg F) w (fun W=>Ie.c33 F u W) ?_ ?_ ?_
 ·show(!(FloatKind.f64.format.order F F==some Ordering.eq))=false
  rw[qA0 F F u u];unfold eq qY9;simp
  omega
 ·rw[yI4 F _ u δ];unfold lt;rw[Y];rw[kF1 (show ¬ (9218868437227405311:Int)<stp F by omega)]
  simp
 ·rw[yI3 F _ u δ];unfold lt;rw[e2];rw[kF1 (show ¬ stp F<(-9218868437227405311:Int) by omega)]
  simp
theorem qY1 (a:Act) (v:Value):a.eval (.const v)=v:=rfl
def BC (U:World) (v:Value) (L:List UInt8):Prop:=∃ ao cap,v=.slice ao L.length cap∧(L ≠ []→∃ g,ao=some ⟨g,0,none⟩∧∀ i (h:i<L.length),U.cell? ⟨g,i,none⟩=some (.int .u8 (L[i].toNat:Int)))
theorem BC.later {U Y:World} {v:Value} {L:List UInt8} (h:BC U v L) (J:Bw U Y):BC Y v L:=by
 obtain⟨ao,cap,D,F⟩:=h;refine⟨ao,cap,D,fun V=>?_⟩
 obtain⟨g,H,u⟩:=F V;exact⟨g,H,fun i hi=>(J.cell (World.block_lt_of_cell? _ _ (u i hi))).trans (u i hi)⟩
theorem OB.bc {w wr:World} {v:Value} {L:List UInt8} (h:OB w wr v L):BC wr v L:=by
 obtain⟨⟨V,h|⟨g,cp,J,rfl,I,Y,C,W,T,u⟩⟩,qQ⟩:=h
 ·have H:=h.2;exact⟨none,0,by rw[h.1,H],fun F=>absurd (List.length_eq_zero_iff.1 H) F⟩
 ·refine⟨_,_,rfl,fun F=>⟨g,rfl,fun i hi=>?_⟩⟩
  rw[Lib.cell_of_heap Y];have D:(J.toList.take (L.length*1))[i]?=(Lib.byteCells L)[i]?:=by rw[u]
  rw[List.getElem?_take_of_lt ω] at D;rw[←Array.getElem?_toList,D];simp[Lib.byteCells,hi]
theorem yT6 (w:World) (ao:Option Addr) (cap:Nat):(convert 65 9 (.slice ao 0 cap)).run Tryz.prog w=.ok (.string ⟨#[]⟩) w:=by
 cases ao with
 | some a=>exact run_convert_bytes_back (P:=Tryz.prog) w 65 9 5 a cap [] Tryz.underlying65 Tryz.underlying5 Tryz.underlying9 (fun j u=>absurd u (Nat.not_lt_zero _))
 | none =>
  rw[run_convert_bytes_string w 65 9 5 none 0 cap Tryz.underlying65 Tryz.underlying5 Tryz.underlying9];rfl
theorem BC.conv {U:World} {v:Value} {L:List UInt8} (h:BC U v L):(convert 65 9 v).run Tryz.prog U=.ok (.string ⟨L.toArray⟩) U:=by
 obtain⟨ao,cap,rfl,J⟩:=h;by_cases u:L = []
 ·subst u;exact yT6 U ao cap
 ·obtain⟨g,rfl,Y⟩:=J u;exact run_convert_bytes_back (P:=Tryz.prog) U 65 9 5 ⟨g,0,none⟩ cap L Tryz.underlying65 Tryz.underlying5 Tryz.underlying9 (fun i hi=>by
   have ea:(⟨g,0,none⟩:Addr).add i=⟨g,i,none⟩:=by simp[Addr.add,eq_comm]
   rw[ea];exact Y i hi)
theorem d4nz (n:Int) (w:World) (hn:n≤100000):Calls Tryz.prog 30 #[.int .i64 n] w fun r w'=>r=.returned (.string ⟨(nzL n).toArray⟩)∧Bw w w':=by
 obtain⟨i0,qZ,C,W,T⟩:=info_parts qA9
 go_enter Tryz.func30,Tryz.ntmps30
 go_wp2
 go_loopw [3,4] (fun v x wr=>∃ i:Nat,i≤n.toNat∧x=.int .i64 (i:Nat)∧Hid (OB w wr v (List.replicate i 48))) (fun _ x _=>n.toNat - (intOf x).toNat)
 case atStart=>exact⟨0,kB4 _,rfl,(⟨World.ownsRow_nil ..,kH9 _ _⟩:OB w w _ [])⟩
 case round =>
  obtain⟨i,hi,rfl,H⟩:=hrel;obtain⟨L,V⟩:=eE (List.replicate i (48:UInt8));rw[←V] at H;have qX:L.length≤100000:=by rw[V,List.length_replicate];omega
  have HL:Hid (L=List.replicate i 48):=V;clear V;obtain⟨ao,ca,I⟩:=H.out.shape;subst I;have F:Hid (w.heap.size≤wr.heap.size):=H.out.2.size;by_cases qJ:i<n.toNat
  ·have qQ:(i:Int)<n:=ω;have qK:IntKind.i64.wrap ((i:Int)+1)=(i:Int)+1:=by rw[kB5];omega
   go_wp2_with (at_builtin;refine wpList_append_own _ rfl _ _ 65 rfl w.heap.size 5 i0 (.int .u8 0) 1 1 Tryz.underlying65 qZ C W T rfl δ _ _ _ rfl (H.out.1.alloc _) ⟨wr.heap.size,0,none⟩ 1 1 [.int .u8 48] rfl rfl (cell_one_new _ _ _) (by intro u hu;simp at hu;subst hu;rfl) (by unfold maxLen;omega) (by have:=F.out;omega) (by simp;have:=F.out;omega) ?_)
   intro v' w4 Y J _;have D:=H.out.push (c:=48) δ Y J;have qY:Hid (OB w w4 v' (List.replicate (i+1) 48)):=by rw[List.replicate_succ',←HL.out];exact D
   clear D Y J
   go_wp2_with fail;exact⟨⟨i+1,ω,by congr 1,qY⟩,by simp[intOf];omega⟩
  ·have qQ:¬ (i:Int)<n:=ω;have qV:=H.out.bc.conv;have HB:Hid (Bw w wr):=H.out.2;have HE:Hid (L=nzL n):=(by rw[HL.out];unfold nzL;congr 1;omega:L=nzL n)
   clear H F HL
   go_wp2_with fail
   go_ret;exact⟨by rw[←HE.out];rfl,HB.out⟩
theorem yX5 (n:Nat) (w:World) (u:n<10) :
  Ca 29 #[iV (n:Int)] w (Rq w (.string ⟨(Lib.decDigits n).toArray⟩)):=by
 rw[Lib.decDigits,dif_pos u,←zN3 n u];have J:¬ (n:Int)<0:=ω;have Y:(n:Int)<10:=ω
 go_enter Tryz.func29,Tryz.ntmps29
 go_wp2
 go_ret;exact⟨rfl,kH9 _ _⟩
theorem xJ0 (n q m:Nat) (w:World) (L:List UInt8) (hL:L.length≤1000) (hn:¬ n<10) (qX:n≤1000000000) (C:n / 10=q) (I:n % 10=m)
  (k:∀ W,Bw w W→Ca 29 #[iV (q:Int)] W (Rq W (.string ⟨L.toArray⟩))) :
  Ca 29 #[iV (n:Int)] w (Rq w (.string ⟨(L ++ [UInt8.ofNat (48+m)]).toArray⟩)):=by
 have h0:¬ (n:Int)<0:=ω;have h1:¬ (n:Int)<10:=ω;have u:m<10:=ω;have qY:(n:Int).tdiv 10=(q:Int):=by rw[kG6 ω];omega
 have qH:(n:Int).tmod 10=(m:Int):=by rw[Int.tmod_eq_emod_of_nonneg ω];omega
 have HQ:Hid _:=And.intro C I;obtain⟨R,F⟩:∃ R:ByteArray,R=⟨(L ++ [UInt8.ofNat (48+m)]).toArray⟩:=⟨_,rfl⟩;have Y:∀ W,(Op.stringOp .add ⟨L.toArray⟩ ((⟨#[48,49,50,51,52,53,54,55,56,57]⟩:ByteArray).extract m (m+1))).run Tryz.prog W=.ok (.string R) W:=fun W=>by
  rw[F,←qZ0,←zN3 m u];exact run_string_add_sum _ _ _ (by rw[zN3 m u];simp[ByteArray.size];omega)
 rw[←F];clear F;have qQ:IntKind.i64.wrap (q:Int)=(q:Int):=by rw[kB5];omega
 have qZ:IntKind.i64.wrap ((m:Int)+1)=(m:Int)+1:=by rw[kB5];omega
 have qG:(0:Int)≤(m:Int):=ω;have qU:(m:Int)≤(m:Int)+1:=ω;have qV:(m:Int)+1≤10:=ω;have qJ:(0:Int)≤(m:Int)+1:=ω;have qK:((m:Int)+1).toNat=m+1:=ω;have T:∀ H,Bw w H→Ca 29 #[iV (q:Int)] H (Rq w (.string ⟨L.toArray⟩)):=fun H D=>(k H D).mono fun r w' ⟨e1,o2⟩=>⟨e1,D.trans (o2.mono D.size)⟩;have V:Bw w w.drew:=bR.drew;clear C I k
 go_enter Tryz.func29,Tryz.ntmps29
 go_upto_region 5 with fail
 go_region_held3 (fun _=>True) (trivial)
  (first|(go_at_call 29;with_reducible refine(T _ (by first|(with_reducible assumption)|exact V)).mono ?_;rintro r w5 ⟨rfl,J⟩))
 have HB:Hid _:=J;clear T V J Y
 go_wp2
 go_ret;exact⟨rfl,HB.out⟩
theorem xW1 (k:Nat):∀ n w,n<10^k→k≤9→Ca 29 #[iV ((n:Nat):Int)] w (Rq w (.string ⟨(Lib.decDigits n).toArray⟩)):=by
 induction k with
 | zero=>intro n w h _;exact yX5 n w (by rw[kN7] at h;omega)
 | succ k ih =>
  intro n w h Y;by_cases u:n<10
  ·exact yX5 n w u
  ·rw[Lib.decDigits,dif_neg u];have V:n<10^9:=kF6 h (kF4 ω Y);have J:=qR9 8 (n / 10) ω;exact xJ0 n _ _ w _ ω u ω rfl rfl fun W _=>ih (n / 10) W (by rw[kN5] at h;omega) ω
theorem yX4 (n:Nat) (w:World) (L:List UInt8) (T:L.length≤1000) (D:0<n) (Y:n≤1000000000)
  (k:Ca 29 #[iV (n:Int)] w (Rq w (.string ⟨L.toArray⟩))) :
  Ca 29 #[iV (-(n:Int))] w (Rq w (.string ⟨(45 :: L).toArray⟩)):=by
 have I:(-(n:Int))<0:=ω;have h1:IntKind.i64.wrap (n:Int)=(n:Int):=by rw[kB5];omega
 have C : - -(n:Int)=(n:Int):=ω;obtain⟨R,J⟩:∃ R:ByteArray,R=⟨(45 :: L).toArray⟩:=⟨_,rfl⟩;have H:∀ W,(Op.stringOp .add (⟨#[45]⟩:ByteArray) ⟨L.toArray⟩).run Tryz.prog W=.ok (.string R) W:=fun W=>by
  have e:(⟨#[45]⟩:ByteArray)=⟨[45].toArray⟩:=rfl;rw[J,show 45 :: L = [45]++L from rfl,←qZ0,←e];exact run_string_add_sum _ _ _ (by rw[e];simp[ByteArray.size];omega)
 rw[←J];obtain⟨V,u⟩:∃ V:Int,V = -(n:Int):=⟨_,rfl⟩;rw[←u] at I C ⊢;clear J u D Y T
 go_enter Tryz.func29,Tryz.ntmps29
 go_wp2_with fail;refine k.mono ?_;rintro r w1 ⟨rfl,F⟩;have HB:Hid _:=F;clear k F
 go_wp2
 go_ret;exact⟨rfl,HB.out⟩
theorem zJ5 (e:Int) (w:World) (h : -100000000<e∧e<100000000) :
  Ca 29 #[iV e] w (Rq w (.string ⟨(Lib.itoa e).toArray⟩)):=by
 unfold Lib.itoa;by_cases u:e<0
 ·rw[kU6 u];obtain⟨n,rfl⟩:∃ n:Nat,e = -(n:Int):=⟨e.natAbs,ω⟩;rw[Int.natAbs_neg,kN1];have Y:=qR9 8 n ω;exact yX4 n w _ ω ω ω (xW1 9 n w ω ω)
 ·rw[kU5 u];obtain⟨n,rfl⟩:∃ n:Nat,e=(n:Int):=⟨e.toNat,ω⟩;rw[kN9];exact xW1 9 n w ω ω
theorem zC1 {w D:World} {b:Nat} {v V:Value} {x B n:Nat} {T:List Value} (h:Own w b v x) (L:w.ownsRow B 5 1 V n T) (C:w.grownBy D V.ownBlock):Own D b v x:=by
 rcases h with h|⟨g,cap,f,h0,h1,F,h3,⟨cu,u,H,J⟩,I⟩
 ·exact .inl h
 ·refine .inr ⟨g,cap,f,h0,h1,F,h3,⟨cu,?_,H,J⟩,I⟩;have Y:g<w.heap.size:=by
   rcases Nat.lt_or_ge g w.heap.size with h|h
   ·exact h
   ·rw[Array.getElem?_eq_none h] at u;exact absurd u (by simp)
  rw[C.block g Y ?_]
  ·exact u
  ·obtain⟨-,⟨rfl,-⟩|⟨g',cp,qQ,rfl,-,W,-⟩⟩:=L
   ·simp[Value.ownBlock]
   ·intro e;have e':g=g':=by simpa [Value.ownBlock] using e
    subst e';rw[W] at u;have:=kF0 u
    injection this with _ F;exact absurd F δ
theorem OB.later {w wr w':World} {v:Value} {L:List UInt8} (h:OB w wr v L) (J:Bw wr w'):OB w w' v L:=by
 obtain⟨⟨u,h|⟨g,W,V,T,D,H,F⟩⟩,Y⟩:=h
 ·exact⟨⟨u,.inl h⟩,Y.trans (J.mono Y.size)⟩
 ·exact⟨⟨u,.inr ⟨g,W,V,T,D,qQ0 H J (qQ7 H),F⟩⟩,Y.trans (J.mono Y.size)⟩
def rvD (N:Nat):List UInt8:=(dcR N).reverse
theorem rvD_0:rvD 0 = []:=rfl
theorem yM4 {N:Nat} (h:N≠0):rvD N=UInt8.ofNat (48+N % 10) :: rvD (N / 10):=by
 unfold rvD;rw[qT0 h,List.reverse_append];rfl
theorem yZ1 {N b:Nat} (h:N<10^b):(rvD N).length≤b:=by
 unfold rvD;rw[List.length_reverse,←xF9 h];clear h;induction b generalizing N with
 | zero=>simp[dcF]
 | succ b ih =>
  unfold dcF;split
  ·simp
  ·rw[kM0,List.length_singleton];have:=ih (N:=N / 10)
   omega
theorem yX9 {Q r k:Nat} (u:k<9):(Q*10^(9 - k)+r) % 10=r % 10∧(Q*10^(9 - k)+r) / 10=Q*10^(9 - (k+1))+r / 10:=by
 have e:10^(9 - k)=10^(9 - (k+1))*10:=by rw[←kN5];congr 1;omega
 rw[e,←kN6];omega
def NbQ (W:World) (g:Nat) (s:Bool) (ao:Option Addr) (n cp:Nat) (e:Int) (T:Bool×Nat×Int):Prop:=W.heap[g]?=some (.cells #[.bool s,.slice ao n cp,.int .i64 e] 54 (0,0))∧DN W (.agg #[.bool s,.slice ao n cp,.int .i64 e]) T
theorem NbQ.later {W w':World} {g:Nat} {s:Bool} {ao:Option Addr} {n Y:Nat} {e:Int} {T:Bool×Nat×Int} (h:NbQ W g s ao n Y e T) (u:Bw W w'):NbQ w' g s ao n Y e T :=
 ⟨qQ0 h.1 u (Array.getElem?_eq_some_iff.1 h.1).1,h.2.later u⟩
theorem NbQ.lt {W:World} {g:Nat} {s:Bool} {ao:Option Addr} {n u:Nat} {e:Int} {T:Bool×Nat×Int} (h:NbQ W g s ao n u e T):g<W.heap.size:=(Array.getElem?_eq_some_iff.1 h.1).1
theorem zC4 {W:World} {ao:Option Addr} {n z g:Nat} {x y v:Value} {F:Bool} {V:Option Addr} {D J:Nat} {I:Int} (h:At W ao n z) (T:Hn W g F V D J I 54):At (((W.setCell ⟨g,0,none⟩ x).setCell ⟨g,1,none⟩ y).setCell ⟨g,2,none⟩ v) ao n z:=by
 obtain⟨H,o,C,L⟩:=h;refine⟨H,o,C,fun i hi=>?_⟩
 have u:=L i hi;have Y:H≠g:=by
  rintro rfl;simp only[World.cell?,T] at u;rcases(show o+i=0∨o+i=1∨o+i=2∨3≤o+i by omega)with e|e|e|e
  ·rw[e] at u;simp at u
  ·rw[e] at u;simp at u
  ·rw[e] at u;simp at u
  ·rw[Array.getElem?_eq_none (by simpa using e)] at u;cases u
 rw[yG5 Y];exact u
theorem DN.storeQ {W:World} {A:Value} {t:Bool×Nat×Int} {g:Nat} {V:Bool} {J:Option Addr} {H Y:Nat} {T:Int} (h:DN W A t) (F:Hn W g V J H Y T 54) (x y v:Value):DN (((W.setCell ⟨g,0,none⟩ x).setCell ⟨g,1,none⟩ y).setCell ⟨g,2,none⟩ v) A t:=by
 obtain⟨ao,cap,D,u⟩:=h;exact⟨ao,cap,D,u.nil,zC4 u.at_ F,u.le,u.small⟩
theorem NbQ.put {W:World} {g:Nat} {s:Bool} {ao:Option Addr} {n D:Nat} {e:Int} {T:Bool×Nat×Int} (h:NbQ W g s ao n D e T) {J:Bool} {Y:Option Addr} {V u:Nat} {e':Int} {H:Bool×Nat×Int} (F:DN W (.agg (Nu J Y V u e')) H) :
  NbQ (((W.setCell ⟨g,0,none⟩ (.bool J)).setCell ⟨g,1,none⟩ (.slice Y V u)).setCell ⟨g,2,none⟩ (iV e')) g J Y V u e' H :=
 ⟨qZ9 _ _ _ h.1,F.storeQ h.1 _ _ _⟩
theorem qB6 {W:World} {g k:Nat} {o:Obj} (h:W.heap[k]?=some o) (u:k≠g) (x y v:Value):(((W.setCell ⟨g,0,none⟩ x).setCell ⟨g,1,none⟩ y).setCell ⟨g,2,none⟩ v).heap[k]?=some o:=by
 have Y:¬ g=k:=fun e=>u e.symm;simp[World.setCell,Array.getElem?_modify,Y,h]
theorem NbQ.other {W:World} {g k:Nat} {s:Bool} {ao:Option Addr} {n J:Nat} {e:Int} {T:Bool×Nat×Int} (h:NbQ W k s ao n J e T) {V:Bool} {Y:Option Addr} {H u:Nat} {L:Int} (D:Hn W g V Y H u L 54) (F:k≠g) (x y v:Value) :
  NbQ (((W.setCell ⟨g,0,none⟩ x).setCell ⟨g,1,none⟩ y).setCell ⟨g,2,none⟩ v) k s ao n J e T :=
 ⟨qB6 h.1 F _ _ _,h.2.storeQ D _ _ _⟩
theorem dg_dF {d:Nat} (h:d<16):dg d 0=d:=by unfold dg;rw[kN7,Nat.div_one];exact kB2 (Nat.lt_trans h δ)
theorem yU1 {d:Nat} (h:d<16):dlen d≤1:=(qZ3 _ _).2 (by rw[Nat.pow_one];exact Nat.lt_trans h δ)
theorem at_dF {V:World} {g d m:Nat} (Y:m≤1) (u:V.cell? ⟨g,0,none⟩=some (.int .u32 (d:Int))) (h:d<16):At V (some ⟨g,0,none⟩) m d:=by
 refine⟨g,0,fun _=>rfl,fun i hi=>?_⟩
 obtain rfl:i=0:=ω;rw[dg_dF h];exact u
theorem xG9 (U:World) (d:Nat) (V:0<d) (h:d<16):Ir (U.alloc (.cells #[.int .u32 (d:Int)] 96)) (.slice (some ⟨U.heap.size,0,none⟩) 1 1) d:=by
 have u:dlen d=1:=by
  have J:=yU1 h;have Y:=qJ1 (x:=d) ω;omega
 refine⟨_,1,by rw[u],by rw[u];omega,?_⟩
 rw[u];refine at_dF lR ?_ h;simp only[World.cell?,kB7];rfl
theorem zI7 {Z P:Nat} (s:Bool) (u:Z≠0):un (if s then -(Z:Int) else(Z:Int)) P=(s,Z / 2^tz Z,(tz Z:Int) - (P:Int)):=by
 cases s
 ·rw[kU5 δ];unfold un cn;rw[kN1,kU5 u,kF1 ω];simp;omega
 ·rw[kU6 rfl];unfold un cn;rw[Int.natAbs_neg,kN1,kU5 u,kF2 ω];simp;omega
theorem zJ0 {U:Nat} (u:U≠0):un (U:Int) 0=(false,U / 2^tz U,(tz U:Int)):=by
 unfold un cn;rw[kN1,kU5 u,kF1 ω];simp
theorem yR2 {x y a c K:Nat} (D:y≠0) (Y:Int) (F:Y=(K:Int)):x*2^a*2^K / (y*2^c)=x*2^((a:Int)+Y - min ((a:Int)+Y) c).toNat / (y*2^((c:Int) - min ((a:Int)+Y) c).toNat)∧(x*2^a*2^K % (y*2^c)=0↔x*2^((a:Int)+Y - min ((a:Int)+Y) c).toNat % (y*2^((c:Int) - min ((a:Int)+Y) c).toNat)=0):=by
 subst F;rw[kN6,←kN3];by_cases h:c≤a+K
 ·obtain⟨d,V⟩:∃ d,a+K=d+c:=⟨a+K - c,ω⟩;have H:((a:Int)+(K:Int) - min ((a:Int)+(K:Int)) c).toNat=d:=ω;have e2:((c:Int) - min ((a:Int)+(K:Int)) c).toNat=0:=ω;rw[H,e2,V,kN7,kM1,kN3,←kN6];have J:=kF3 c;refine⟨Nat.mul_div_mul_right _ _ J,?_⟩
  rw[Nat.mul_mod_mul_right];constructor
  ·intro u;rcases Nat.mul_eq_zero.1 u with u|u
   ·exact u
   ·omega
  ·intro u;rw[u,Nat.zero_mul]
 ·obtain⟨d,V⟩:∃ d,c=d+(a+K):=⟨c - (a+K),ω⟩;have H:((a:Int)+(K:Int) - min ((a:Int)+(K:Int)) c).toNat=0:=ω;have e2:((c:Int) - min ((a:Int)+(K:Int)) c).toNat=d:=ω;rw[H,e2,V,kN7,kM1,kN3 2 d (a+K),←kN6];have J:=kF3 (a+K);refine⟨Nat.mul_div_mul_right _ _ J,?_⟩
  rw[Nat.mul_mod_mul_right];constructor
  ·intro u;rcases Nat.mul_eq_zero.1 u with u|u
   ·exact u
   ·omega
  ·intro u;rw[u,Nat.zero_mul]
theorem xT3 {Z U P K:Nat} (s:Bool) {m:Int} (I:1≤m∧m≤3) (D:Z≠0) (T:U≠0) (hK:64≤bl (Z*2^K / U)) :
  rtF (un (if s then -(Z:Int) else(Z:Int)) P) (un (U:Int) 0) m=tfF s (decide (Z*2^K % U=0)) (Z*2^K / U) (-((P:Int)+(K:Int))) m:=by
 rw[zI7 s D,zJ0 T];have sU:=(qX0 _ _ lR T).1;have u:=(qX0 _ _ lR D).1;have hx:Z / 2^tz Z≠0:=by intro H;rw[H,Nat.mul_zero] at u;omega
 have Y:U / 2^tz U≠0:=by intro H;rw[H,Nat.mul_zero] at sU;omega
 rw[kN4] at sU u;generalize J:U / 2^tz U=y at *;generalize V:Z / 2^tz Z=x at *;generalize tz U=c at *;generalize tz Z=a at *;clear V J;obtain⟨F,L⟩:=yR2 (x:=x) (y:=y) (a:=a) (c:=c) (K:=K) Y (K:Int) rfl;rw[u,sU] at F L;have hk:64+bl y≤bl x+(max 0 (64+(bl y:Int) - (bl x:Int))).toNat:=ω;have hd:decide (Z*2^K % U=0)=decide (x*2^((a:Int)+(K:Int) - min ((a:Int)+(K:Int)) c).toNat % (y*2^((c:Int) - min ((a:Int)+(K:Int)) c).toNat)=0):=by
  rw[decide_eq_decide];exact L
 have C:ovX x ((a:Int) - P) c ((P:Int)+K)=x*2^((a:Int)+(K:Int) - min ((a:Int)+(K:Int)) c).toNat:=by
  unfold ovX;congr 2;congr 1;omega
 have W:ovY y ((a:Int) - P) c ((P:Int)+K)=y*2^((c:Int) - min ((a:Int)+(K:Int)) c).toNat:=by
  unfold ovY;congr 2;congr 1;omega
 have h:=zS5 (s:=s) (x:=x) (y:=y) (k:=(max 0 (64+(bl y:Int) - (bl x:Int))).toNat) (ea:=(a:Int) - P) (eb:=c) (P:=(P:Int)+K) I Y (xK1 hx Y hk) (by rw[C,W,←F];exact hK)
 rw[C,W] at h;rw[hd,F,←h];unfold rtF rtK;simp
theorem yZ4 {Z P:Nat} (s:Bool) {m:Int} (u:1≤m∧m≤3) (Y:Z≠0):rtF (un (if s then -(Z:Int) else(Z:Int)) P) (un ((1:Nat):Int) 0) m=tfF s true Z (-(P:Int)) m:=by
 have J:64≤bl (Z*2^64 / 1):=by
  rw[Nat.div_one];refine xQ5 (n:=63) ?_;have H:=Nat.one_le_iff_ne_zero.2 Y;have V:1*2^64≤Z*2^64:=kF5 _ H;exact kF8 δ V
 rw[xT3 s u Y δ J,Nat.div_one,Nat.mod_one,kF2 rfl,zD7 u];congr 1
 omega
theorem to_un {Z:Nat} (s:Bool) {e m:Int} (u:1≤m∧m≤3) (Y:Z≠0):tfF s true (Z / 2^tz Z) ((tz Z:Int)+e) m=tfF s true Z e m:=by
 have sZ:=(qX0 _ _ lR Y).1;rw[kN4] at sZ;have h:=zD7 (s:=s) (x:=Z / 2^tz Z) (n:=tz Z) (e:=e) u;rw[sZ] at h;rw[h];congr 1
 omega
theorem xN8 {U:World} {ao:Option Addr} {c:Nat} {L:List UInt8} (h:BC U (.slice ao L.length c) L) {i:Nat} (hi:i<L.length):∃ g,ao=some ⟨g,0,none⟩∧U.cell? ⟨g,i,none⟩=some (.int .u8 (L[i].toNat:Int)):=by
 obtain⟨H,cap,V,J⟩:=h;obtain⟨g,Y,u⟩:=J (by intro h;rw[h] at hi;simp at hi)
 injection V with e1;subst e1;exact⟨g,Y,u i hi⟩
theorem zQ6 (x k N K:Nat) (hK:Hid (K≤30000)) (hN:x*2^k=N) (ao:Option Addr) (dx cp:Nat) (w:World) (hI:Ir w (.slice ao dx cp) x) (hx:dlen x≤3000) (hk:k≤60000) (zB:dlen N≤3000) (zN:N<10^K) :
  Ca 36 #[.agg (Nu false ao dx cp (k:Nat))] w (Rq w (.string ⟨(if N=0 then [48] else dcR N).toArray⟩)):=by
 obtain⟨T,hT⟩:∃ T:List UInt8,T=if N=0 then [48] else dcR N:=⟨_,rfl⟩;rw[←hT];have HT:Hid (T=if N=0 then [48] else dcR N):=hT;clear hT;obtain⟨W,hW⟩:=eE (w.alloc (.cells (Nu false ao dx cp (k:Nat)) 54));have HW:Hid (Bw w W):=by rw[hW];exact bR.alloc lR _
 have qK:Hn W w.heap.size false ao dx cp (k:Nat) 54:=by rw[hW];exact kB7 _ _
 obtain⟨⟨c0,c1,c2⟩,-⟩:=qQ1 qK;have kU:=rup (hI.later HW.out) k ω ω;rw[hN] at kU;have zQ:Hid (dlen N≤3000∧N<10^K):=⟨zB,zN⟩;obtain⟨i0,zG,zK,zX,zY⟩:=info_parts qA9;clear qK hI hN hx zN
 go_enter Tryz.func36,Tryz.ntmps36
 go_upto_region 1 with fail;rw[←hW];clear hW
 go_wp2_with fail;refine kU.mono ?_;rintro r w1 ⟨v,rfl,hv,zH⟩;have zZ:Hid (Bw w w1):=HW.out.trans (zH.mono HW.out.size);have HV:Hid (Ir w1 v N):=hv;obtain⟨yT,yF,zW,qZ,zL⟩:=hv;subst zW;clear kU c0 c1 c2 zH qZ zL HW;by_cases h0:N=0
 ·subst h0;have hT:=HT.out;rw[kU6 rfl] at hT;subst hT;rw[qQ5];clear HT
  go_wp2_with fail
  go_ret;exact⟨rfl,zZ.out⟩
 have qC:dlen N≠0:=fun h=>h0 (qQ8.1 h);have qX:(((dlen N:Nat):Int)==0)=false:=by rw[kN2];omega
 obtain⟨dn,qW⟩:=eE (dlen N);have yJ:Hid (dn=dlen N):=qW;rw[←qW] at qX zB ⊢;clear qC qW
 go_upto_region 4 with fail;clear qX
 go_wp2_with fail
 go_loopg [3,4] N (fun g v x wr=>∃ (M:Nat) (H:List UInt8),M≤g∧Hid (Ir wr v M∧OB w1 wr x H∧rvD N=H++rvD M∧M≤N∧dlen M≤3000))
 case atStart=>exact⟨N,[],kH8 _,⟨by rw[yJ.out];exact HV.out,⟨World.ownsRow_nil ..,kH9 _ _⟩,rfl,kH8 _,zQ.out.1⟩⟩
 case round =>
  obtain⟨M,H,qO,HI⟩:=hrel;clear HV;obtain⟨bo,bc,zA⟩:=HI.out.2.1.shape;subst zA;obtain⟨mo,mc,yZ,yQ,zO⟩:=HI.out.1;subst yZ;clear yQ zO;have zM:=HI.out.2.2.2.2;by_cases qJ:M=0
  ·subst qJ;have HB:Hid (H=rvD N∧Bw w wr):=⟨by have h:=HI.out.2.2.1;rw[rvD_0,List.append_nil] at h;exact h.symm,zZ.out.trans (HI.out.2.1.2.mono zZ.out.size)⟩
   have zR:Hid (BC wr (.slice bo H.length bc) H):=HI.out.2.1.bc;rw[qQ5];obtain⟨L,hL⟩:=eE H.length;have yS:L≤30000:=by rw[hL,HB.out.1];exact kF8 (yZ1 zQ.out.2) hK.out
   have HL:Hid (L=H.length):=hL;rw[←hL] at zR ⊢;have zT:IntKind.i64.wrap ((L:Int) - 1)=(L:Int) - 1:=by rw[kB5];omega
   clear HI hL qO zM;generalize wr=V3 at *
   go_upto_region 13 with fail
   go_wp2_with fail;clear zT
   go_loopw [8,9] (fun v x wx=>∃ t:Nat,t≤L∧x=iV ((L:Int) - 1 - t)∧Hid (OB V3 wx v (H.drop (L - t)).reverse)) (fun _ x _=>(intOf x+1).toNat)
   case atStart=>exact⟨0,kB4 _,by simp,by rw[Nat.sub_zero,HL.out,List.drop_length];exact(⟨World.ownsRow_nil ..,kH9 _ _⟩:OB V3 V3 _ [])⟩
   case round =>
    obtain⟨t,ht,rfl,HO⟩:=hrel;obtain⟨D,qH⟩:=eE ((H.drop (L - t)).reverse);have yR:D.length≤30000:=by rw[qH,List.length_reverse,List.length_drop,←HL.out];omega
    have HD:Hid (D=(H.drop (L - t)).reverse):=qH;rw[←qH] at HO;clear qH;obtain⟨oo,oc,zE⟩:=HO.out.shape;subst zE;have qV:Hid (V3.heap.size≤wr.heap.size):=HO.out.2.size;by_cases yN:t<L
    ·have zJ:(0:Int)≤(L:Int) - 1 - t:=ω;have qA:L - 1 - t<H.length:=by rw[←HL.out];omega
     have qD:BC wr (.slice bo H.length bc) H:=by rw[←HL.out];exact zR.out.later HO.out.2
     obtain⟨g,yY,qL⟩:=xN8 qD qA;obtain⟨cb,qE⟩:=eE (H[L - 1 - t]);rw[←qE] at qL;have HF:Hid ((H.drop (L - (t+1))).reverse=D ++ [UInt8.ofNat cb.toNat]):=(by
      rw[UInt8.ofNat_toNat,HD.out,qE,show L - (t+1)=L - 1 - t by omega,List.drop_eq_getElem_cons qA,List.reverse_cons,show L - 1 - t+1=L - t by omega]:(H.drop (L - (t+1))).reverse=D ++ [UInt8.ofNat cb.toNat])
     obtain⟨c,hc⟩:=eE cb.toNat;have I:c<256:=by rw[hc];exact cb.toNat_lt
     rw[←hc] at qL HF;subst yY;obtain⟨ix,qT⟩:∃ ix:Int,ix=(L:Int) - 1 - t:=⟨_,rfl⟩;obtain⟨qS,qP⟩:∃ qS:Nat,qS=L - 1 - t:=⟨_,rfl⟩;have yU:ix.toNat=qS:=ω;have yG:ix<(L:Int):=ω;have yB:IntKind.i64.wrap (ix - 1)=ix - 1:=by rw[kB5];omega
     have zD:Hid (ix - 1=(L:Int) - 1 - ((t+1:Nat):Int)∧ix=(L:Int) - 1 - t):=⟨ω,qT⟩;rw[←qP] at qL;rw[←qT] at zJ ⊢;clear qE hc qD qA qT qP
     go_wp2_with (at_builtin;refine wpList_append_own _ rfl _ _ 65 rfl V3.heap.size 5 i0 (.int .u8 0) 1 1 Tryz.underlying65 zG zK zX zY rfl δ _ _ _ rfl (HO.out.1.alloc _) ⟨wr.heap.size,0,none⟩ 1 1 [.int .u8 _] rfl rfl (cell_one_new _ _ _) (by intro u hu;simp at hu;subst hu;rfl) (by unfold maxLen;omega) (by have:=qV.out;omega) (by simp;have:=qV.out;omega) ?_)
     intro v' w4 J Y _;have qQ:=HO.out.push I J Y;rw[←HF.out] at qQ;have qF:Hid (OB V3 w4 v' (H.drop (L - (t+1))).reverse):=qQ;clear qQ J Y
     go_wp2_with fail;exact⟨⟨t+1,ω,by rw[zD.out.1],qF⟩,by have:=zD.out;simp[intOf];omega⟩
    ·obtain rfl:t=L:=ω;have zJ:¬ (0:Int)≤(t:Int) - 1 - t:=ω;have yD:=HO.out.bc.conv;have HE:Hid (D=T):=(by
      rw[HT.out,kU5 h0,HD.out,Nat.sub_self,List.drop_zero,HB.out.1];unfold rvD;rw[List.reverse_reverse]:D=T)
     have yV:Hid (Bw w wr):=HB.out.2.trans (HO.out.2.mono HB.out.2.size);clear HO HB
     go_wp2_with fail
     go_ret;exact⟨by rw[HE.out];rfl,yV.out⟩
  ·have qC:dlen M≠0:=fun h=>qJ (qQ8.1 h);have qX:(0:Int)<((dlen M:Nat):Int):=ω;have kS:Ca 102 #[.slice mo (dlen M) mc,.int .u32 1000000000] wr _:=yZ6 (b:=1000000000) HI.out.1 qJ ω δ δ;obtain⟨dm,qG⟩:=eE (dlen M);have zS:Hid (dm=dlen M∧M≠0∧M≤gk):=⟨qG,qJ,qO⟩;obtain⟨q,hq⟩:=eE (M / 1000000000);obtain⟨r0,qY⟩:=eE (M % 1000000000);have e9:10^(9 - 0)=1000000000:=by decide
   have HQ:Hid (q=M / 1000000000∧r0=M % 1000000000∧M=q*10^(9 - 0)+r0∧r0<10^(9 - 0)):=⟨hq,qY,by rw[e9];omega,by rw[e9];omega⟩
   rw[←hq,←qY,←qG] at kS;rw[←qG] at qX zM ⊢;clear qC qG qJ qO hq qY e9
   go_upto_region 6 with fail;clear qX
   go_wp2_with fail;refine kS.mono ?_;rintro r w2 ⟨v2,rfl,qZ,qI⟩;have F:Hid (Own w2 0 v2 q∧OB w1 w2 (.slice bo H.length bc) H∧rvD N=H++rvD (q*10^(9 - 0)+r0)∧r0<10^(9 - 0)∧q<gk∧q≤N∧dlen q≤3000):=⟨qZ.mono (kB4 _),HI.out.2.1.later qI,by have h:=HI.out.2.2.1;rw[HQ.out.2.2.1] at h;exact h,HQ.out.2.2.2,by have:=zS.out;have:=HQ.out.1;omega,by have:=HI.out.2.2.2.1;have:=HQ.out.1;omega,kF8 (qZ5 (by have:=HQ.out.1;omega)) HI.out.2.2.2.2⟩
   obtain⟨qo,qc,zI,-⟩:=qZ.is;subst zI;obtain⟨dq,qU⟩:=eE (dlen q);have yH:dq≤3000:=by rw[qU];exact F.out.2.2.2.2.2.2
   have qB:Hid (dq=dlen q):=qU;rw[←qU] at F ⊢;clear kS qI qZ HI HQ zS qU
   go_upto_region 8 with fail
   go_loopw [4,6,7] (fun x rr kk wx=>∃ (j r:Nat) (b2:List UInt8),j≤9∧kk=iV (j:Nat)∧rr=.int .u32 (r:Nat)∧r<1000000000∧Hid (OB w1 wx x b2∧Own wx 0 (.slice qo dq qc) q∧rvD N=b2++rvD (q*10^(9 - j)+r)∧r<10^(9 - j))) (fun _ _ kk _=>9 - (intOf kk).toNat)
   case atStart=>exact⟨0,r0,H,ω,rfl,rfl,by have:=F.out.2.2.2.1;have e9:10^(9 - 0)=1000000000:=δ;omega,F.out.2.1,F.out.1,F.out.2.2.1,F.out.2.2.2.1⟩
   case round =>
    obtain⟨j,r,b2,hj,rfl,rfl,hr,HJ⟩:=hrel;obtain⟨xo,xc,zC⟩:=HJ.out.1.shape;subst zC;have qI:b2.length≤30000:=by
     have h1:=kU7 List.length HJ.out.2.2.1;rw[kM0] at h1;have h2:=yZ1 zQ.out.2;have h3:=hK.out;omega
    by_cases V:j<9∧(q≠0∨r≠0)
    ·obtain⟨C,qR⟩:=V;have qM:(j:Int)<9:=ω;have zF:q*10^(9 - j)+r≠0:=by
      rcases qR with h|h
      ·have h1:0<q*10^(9 - j):=Nat.mul_pos ω (kH1 δ);omega
      ·omega
     obtain⟨p1,p2⟩:=yX9 (Q:=q) (r:=r) C;obtain⟨m,hm⟩:=eE (r % 10);obtain⟨rq,zU⟩:=eE (r / 10);obtain⟨c,hc⟩:∃ c:Nat,c=48+m:=⟨_,rfl⟩;have I:c<256:=ω;have zV:rq<1000000000:=ω;have HS:Hid (rvD N=(b2 ++ [UInt8.ofNat c])++rvD (q*10^(9 - (j+1))+rq)∧rq<10^(9 - (j+1))):=(by
      refine⟨?_,?_⟩
      ·have h:=HJ.out.2.2.1;rw[yM4 zF,p1,p2,←hm,←zU,←hc] at h;rw[h,List.append_assoc];rfl
      ·have h:=HJ.out.2.2.2;have e:10^(9 - j)=10^(9 - (j+1))*10:=by rw[←kN5];congr 1;omega
       rw[e] at h;omega:rvD N=(b2 ++ [UInt8.ofNat c])++rvD (q*10^(9 - (j+1))+rq)∧rq<10^(9 - (j+1)))
     have e1:Int.tmod (r:Int) 10=(m:Int):=by rw[Int.tmod_eq_emod_of_nonneg ω];omega
     have e2:Int.tdiv (r:Int) 10=(rq:Int):=by rw[kG6 ω];omega
     have e3:IntKind.u32.wrap (48+(m:Int))=(c:Int):=by rw[IntKind.wrap_u32];omega
     have e4:IntKind.u8.wrap (c:Int)=(c:Int):=by rw[IntKind.wrap_u8];omega
     have e5:IntKind.u32.wrap (rq:Int)=(rq:Int):=by rw[IntKind.wrap_u32];omega
     have e6:IntKind.i64.wrap ((j:Int)+1)=(j:Int)+1:=by rw[kB5];omega
     have e7:IntKind.u32.wrap (m:Int)=(m:Int):=by rw[IntKind.wrap_u32];omega
     have qV:Hid (w1.heap.size≤wr.heap.size):=HJ.out.1.2.size;have yX:Hid (dq=0→q=0):=(fun h=>qQ8.1 (by rw[←qB.out];exact h):dq=0→q=0)
     have yK:Hid (q≠0∨r≠0):=qR;clear p1 p2 hm zU hc zF qR
     go_upto_region 8 with fail
     go_cut [36] from 26 to 37 (fun v wx=>v=.bool true∧wx=wr)
     case first =>
      by_cases hd:dq=0
      ·have yM:(0:Int)<(r:Int):=by have:=yK.out.resolve_left (fun h=>h (yX.out hd));omega
       subst hd
       go_wp2_with fail
       go_meet
       exact⟨by congr 1;exact kF2 ω,rfl⟩
      ·have yP:(0:Int)<(dq:Int):=ω
       go_wp2_with fail
       go_meet
       exact⟨rfl,rfl⟩
     case rest =>
     obtain⟨rfl,hw⟩:=hcut;subst hw
     go_wp2_with (at_builtin;refine wpList_append_own _ rfl _ _ 65 rfl w1.heap.size 5 i0 (.int .u8 0) 1 1 Tryz.underlying65 zG zK zX zY rfl δ _ _ _ rfl (HJ.out.1.1.alloc _) ⟨wc.heap.size,0,none⟩ 1 1 [.int .u8 _] rfl rfl (cell_one_new _ _ _) (by intro u hu;simp at hu;subst hu;rfl) (by unfold maxLen;omega) (by have:=qV.out;omega) (by simp;have:=qV.out;omega) ?_)
     intro v' w4 J Y _;have qQ:=HJ.out.1.push I J Y;have zP:=zC1 (HJ.out.2.1.later (bR.alloc lR _)) (HJ.out.1.1.alloc _) Y;have qF:Hid (OB w1 w4 v' (b2 ++ [UInt8.ofNat c])∧Own w4 0 (.slice qo dq qc) q):=⟨qQ,zP⟩;clear qQ zP J Y
     go_wp2_with fail;exact⟨⟨j+1,rq,_,ω,by congr 1,rfl,zV,qF.out.1,qF.out.2,HS.out.1,HS.out.2⟩,by simp[intOf];omega⟩
    ·have HE:Hid (rvD N=b2++rvD q):=(by
      have h:=HJ.out.2.2.1;have h9:=HJ.out.2.2.2;have h8:q*10^(9 - j)+r=q:=by
       by_cases C:j<9
       ·have hq:q=0:=by apply Classical.byContradiction;intro h;exact V ⟨C,.inl h⟩
        have hr:r=0:=by apply Classical.byContradiction;intro h;exact V ⟨C,.inr h⟩
        rw[hq,hr,Nat.zero_mul]
       ·obtain rfl:j=9:=ω;rw[Nat.sub_self,kN7] at h9 ⊢;omega
      rw[h8] at h;exact h:rvD N=b2++rvD q)
     have qN:Hid (¬ (j<9∧(q≠0∨r≠0))∧(q=0→dq=0)):=⟨V,fun h=>by rw[qB.out];exact qQ8.2 h⟩
     clear V
     go_upto_region 8 with fail
     go_cut [36] from 26 to 37 (fun v wx=>v=.bool false∧wx=wr)
     case first =>
      by_cases C:j<9
      ·have qM:(j:Int)<9:=ω;have hq:q=0:=by apply Classical.byContradiction;intro h;exact qN.out.1 ⟨C,.inl h⟩
       have qY:r=0:=by apply Classical.byContradiction;intro h;exact qN.out.1 ⟨C,.inr h⟩
       have hd:dq=0:=qN.out.2 hq;subst qY hd;clear hq
       go_wp2_with fail
       go_meet
       exact⟨rfl,rfl⟩
      ·have qM:¬ (j:Int)<9:=ω
       go_wp2_with fail
       go_meet
       exact⟨rfl,rfl⟩
     case rest =>
     obtain⟨rfl,hw⟩:=hcut;subst hw;clear qN
     go_wp2_with fail
     go_roundg q
     case measure=>exact F.out.2.2.2.2.1
     case rel=>exact⟨q,b2,kH8 _,by rw[qB.out] at HJ ⊢; exact HJ.out.2.1.is.ir,HJ.out.1,HE.out,F.out.2.2.2.2.2.1,by rw[←qB.out];exact F.out.2.2.2.2.2.2⟩
theorem xS0 {N b k:Nat} (h:N<2^b) (u:b≤3*k):N<10^k :=
 kF6 h (kF8 (kF4 δ u) (by rw[Nat.pow_mul];exact Nat.pow_le_pow_left δ _))
def dcD (N:Nat):List UInt8:=if N=0 then [48] else dcR N
theorem zY6 {N b:Nat} {X:Value} {w:World} (D:DN w X (un ((N:Nat):Int) 0)) (Y:N<2^b) (W:b≤59000) :
  Ca 36 #[X] w (Rq w (.string ⟨(dcD N).toArray⟩)):=by
 have F:=qV9 Y;obtain⟨K,C⟩:∃ K:Nat,K=30000:=⟨_,rfl⟩;have H:N<10^K:=xS0 Y ω;have V:=un_e (p:=0) (show(((N:Nat):Int)).natAbs<2^b by rw[kN1];exact Y)
 obtain⟨ao,cap,rfl,u⟩:=D;by_cases J:N=0
 ·subst J;have e:un ((0:Nat):Int) 0=(false,0,0):=rfl;rw[e] at u ⊢;exact zQ6 0 0 0 K (by omega:K≤30000) rfl ao _ cap w ⟨ao,cap,rfl,u.le,u.at_⟩ (by rw[qQ5];omega) ω (by rw[qQ5];omega) H
 ·have e:=zJ0 J;rw[e] at u V ⊢;have L:=(qX0 _ _ lR J).1;have T:N / 2^tz N*2^tz N=N:=by rw[kN4];exact L
  have I:dlen (N / 2^tz N)≤dlen N:=qZ5 (kF9 _ _);exact zQ6 (N / 2^tz N) (tz N) N K (by omega:K≤30000) T ao _ cap w ⟨ao,cap,rfl,u.le,u.at_⟩ ω (by have:=V.2.1;simp only at this;omega) ω H
def TnB (w:World) (g3 g4:Nat) (a b:Nat) (wr:World) (s1:Bool) (ao1:Option Addr) (n1 cp1:Nat) (e1:Int) (s2:Bool) (ao2:Option Addr) (n2 cp2:Nat) (e2:Int):Prop :=
 NbQ wr g3 s1 ao1 n1 cp1 e1 (un ((10^a:Nat):Int) 0)∧NbQ wr g4 s2 ao2 n2 cp2 e2 (un ((10^b:Nat):Int) 0)∧wr.heap[w.heap.size]?=some (.cells #[.bool false,.slice none 0 0,.int .i64 0] 54 (0,0))∧Bw w wr∧w.heap.size<g3∧g3<g4∧g4<wr.heap.size
theorem TnB.put3 {w wr w':World} {V g4 a b a':Nat} {s1:Bool} {C:Option Addr} {n1 W:Nat} {e1:Int} {s2:Bool} {F:Option Addr} {I H:Nat} {e2:Int} {D:Bool} {Y:Option Addr} {T u:Nat} {L:Int} (h:TnB w V g4 a b wr s1 C n1 W e1 s2 F I H e2) (J:Bw wr w') (hd:DN w' (.agg (Nu D Y T u L)) (un ((10^a':Nat):Int) 0)):TnB w V g4 a' b (((w'.setCell ⟨V,0,none⟩ (.bool D)).setCell ⟨V,1,none⟩ (.slice Y T u)).setCell ⟨V,2,none⟩ (iV L)) D Y T u L s2 F I H e2:=by
 obtain⟨h1,h2,h3,h4,h5,h6,h7⟩:=h;have hs:=J.size;have b1:=h1.later J;refine⟨b1.put hd,(h2.later J).other b1.1 ω _ _ _,qB6 (qQ0 h3 J ω) ω _ _ _,qQ4 (h4.trans (J.mono h4.size)) ω _ _ _,h5,h6,by simp[World.setCell];omega⟩
theorem TnB.put4 {w wr w':World} {g3 V a b b':Nat} {I:Bool} {F:Option Addr} {n1 H:Nat} {e1:Int} {s2:Bool} {C:Option Addr} {n2 W:Nat} {e2:Int} {D:Bool} {Y:Option Addr} {T u:Nat} {L:Int} (h:TnB w g3 V a b wr I F n1 H e1 s2 C n2 W e2) (J:Bw wr w') (hd:DN w' (.agg (Nu D Y T u L)) (un ((10^b':Nat):Int) 0)):TnB w g3 V a b' (((w'.setCell ⟨V,0,none⟩ (.bool D)).setCell ⟨V,1,none⟩ (.slice Y T u)).setCell ⟨V,2,none⟩ (iV L)) I F n1 H e1 D Y T u L:=by
 obtain⟨h1,h2,h3,h4,h5,h6,h7⟩:=h;have hs:=J.size;have b2:=h2.later J;refine⟨(h1.later J).other b2.1 ω _ _ _,b2.put hd,qB6 (qQ0 h3 J ω) ω _ _ _,qQ4 (h4.trans (J.mono h4.size)) ω _ _ _,h5,h6,by simp[World.setCell];omega⟩
theorem zN2 {x y:Int} {k l:Nat} {X Y:Value} {w:World} (hx:x.natAbs<2^k) (u:y.natAbs<2^l) (V:k≤90000) (J:l≤90000) (F:DN w X (un x 0)) (H:DN w Y (un y 0)):Ca 39 #[X,Y] w fun r w'=>∃ A,r=.returned A∧DN w' A (un (x*y) 0)∧Bw w w':=by
 have h:=yJ2 (qG3 hx V ω) (qG3 u J ω) F H;rw[yR0] at h;exact h
theorem zF4 (a:Nat):(((10^a:Nat):Int)).natAbs<2^(4*a+1):=by
 rw[kN1];have h:10^a≤2^(4*a):=by rw[Nat.pow_mul];exact Nat.pow_le_pow_left δ _
 rw[kN5];have:=kF3 (4*a)
 omega
theorem xS (a b:Nat):((10^a:Nat):Int)*((10^b:Nat):Int)=((10^(a+b):Nat):Int):=by rw[kN3];push_cast;rfl
theorem zR1 (a b:Nat) (T:a≤10000) (D:b≤10000) {X Y:Value} {w:World} (F:DN w X (un ((10^a:Nat):Int) 0)) (H:DN w Y (un ((10^b:Nat):Int) 0)):Ca 39 #[X,Y] w fun r w'=>∃ s ao n u e,r=.returned (.agg (Nu s ao n u e))∧DN w' (.agg (Nu s ao n u e)) (un ((10^(a+b):Nat):Int) 0)∧Bw w w':=by
 refine(zN2 (zF4 a) (zF4 b) ω ω F H).mono ?_
 rintro r w' ⟨A,rfl,V,J⟩;rw[xS] at V;obtain⟨s,ao,n,u,e,rfl⟩:=V.shape;exact⟨s,ao,n,u,e,rfl,V,J⟩
theorem xE9 (U:World) (g:Nat) (F:g=U.heap.size) (d:Nat) (H:Int) (J:H=(d:Int)) (L:0<d) (h:d<16):Ca 103 (Nu false (some ⟨g,0,none⟩) 1 1 0) (U.alloc (.cells #[.int .u32 H] 96)) fun r w'=>∃ s ao n Y e,r=.returned (.agg (Nu s ao n Y e))∧DN w' (.agg (Nu s ao n Y e)) (un ((d:Nat):Int) 0)∧Bw U w':=by
 subst J F;have hi:=xG9 U d L h;have W:=yU1 h;refine(zF9 (neg:=false) (x:=d) (e:=0) hi ω ω).mono ?_
 rintro r w' ⟨A,rfl,T,D⟩;have V:DN w' A (un ((d:Nat):Int) 0):=by
  have:=T.dn
  unfold un;rw[kF1 ω,kN1];exact this
 obtain⟨s,ao,n,Y,e,rfl⟩:=V.shape;refine⟨s,ao,n,Y,e,rfl,V,?_⟩
 have u:Below U.heap.size U (U.alloc (.cells #[.int .u32 (d:Int)] 96)):=bR.alloc lR _;exact u.trans (D.mono u.size)
theorem zN6 (N:Nat) (w:World) (hN:N≤2000) :
  Ca 38 #[iV N] w fun r w'=>∃ A,r=.returned A∧DN w' A (un ((10^N:Nat):Int) 0)∧Bw w w':=by
 obtain⟨W,hW⟩:=eE (w.alloc (.cells (Nu false none 0 0 0) 54));have qR:W.heap.size=w.heap.size+1:=by rw[hW];simp
 have HW:Hid (Bw w W∧Hn W w.heap.size false none 0 0 0 54∧W.heap.size=w.heap.size+1):=⟨by rw[hW];exact bR.alloc lR _,by rw[hW];exact kB7 _ _,qR⟩
 clear qR;have k1:=xE9 W (w.heap.size+1) HW.out.2.2.symm 1 1 rfl δ δ
 go_enter Tryz.func38,Tryz.ntmps38
 go_wp2_with fail;rw[←hW];clear hW;refine k1.mono ?_;rintro r w1 ⟨s1,J,n1,Y,e1,rfl,qC,qY⟩;clear k1;obtain⟨V,hV⟩:=eE (w1.alloc (.cells (Nu s1 J n1 Y e1) 54));obtain⟨F,L⟩:=eE w1.heap.size;have k2:=xE9 V (F+1) (by rw[hV,L];simp) 10 10 rfl δ δ
 have H1:Hid (NbQ V F s1 J n1 Y e1 (un ((10^0:Nat):Int) 0)∧Bw W V∧W.heap.size≤F∧V.heap.size=F+1):=by
  have qZ:Bw w1 V:=by rw[hV];exact bR.alloc lR _
  refine⟨⟨by rw[hV,L];exact kB7 _ _,qC.later qZ⟩,qY.trans (qZ.mono qY.size),by rw[L];exact qY.size,by rw[hV,L];simp⟩
 clear qC qY
 go_upto_region 2 with fail;rw[←hV,←L];clear hV L;have qO:=H1.out.2.2.2
 go_wp2_with fail;refine k2.mono ?_;rintro r w2 ⟨s2,T,n2,D,e2,rfl,qW,qU⟩;clear k2 qO;obtain⟨V2,qX⟩:=eE (w2.alloc (.cells (Nu s2 T n2 D e2) 54));obtain⟨g4,qM⟩:=eE w2.heap.size;have HT:Hid (TnB w F g4 0 1 V2 s1 J n1 Y e1 s2 T n2 D e2):=by
  have qZ:Bw w2 V2:=by rw[qX];exact bR.alloc lR _
  have hV:Bw V V2:=qU.trans (qZ.mono qU.size);have qE:Bw W V2:=H1.out.2.1.trans (hV.mono H1.out.2.1.size);have h3:=HW.out.2.2;have h4:=qU.size;have h5:=H1.out.2.2;have h6:V2.heap.size=w2.heap.size+1:=by rw[qX];simp
  refine⟨H1.out.1.later hV,⟨by rw[qX,qM];exact kB7 _ _,qW.later qZ⟩,qQ0 HW.out.2.1 qE ω,HW.out.1.trans (qE.mono HW.out.1.size),ω,ω,ω⟩
 clear qW qU H1
 go_upto_region 3 with fail;rw[←qX,←qM];clear qX qM HW
 go_loopw [0] (fun v wr=>∃ (n a b:Nat) (s1:Bool) (J:Option Addr) (n1 Y:Nat) (e1:Int) (s2:Bool) (T:Option Addr) (n2 D:Nat) (e2:Int),n≤2000∧v=iV (n:Nat)∧a+b*n=N∧Hid (TnB w F g4 a b wr s1 J n1 Y e1 s2 T n2 D e2)) (fun v _=>(intOf v).toNat)
 case atStart=>exact⟨N,0,1,_,_,_,_,_,_,_,_,_,_,hN,rfl,ω,HT⟩
 case round =>
  obtain⟨n,a,b,s1,J,n1,Y,e1,s2,T,n2,D,e2,hn,rfl,qG,u⟩:=hrel;clear HT;by_cases h0:0<n
  ·have zY:(0:Int)<(n:Int):=ω;have qY:b*1≤b*n:=kB1 _ h0;have zQ:b≤2000:=ω;have zZ:a≤2000:=ω;have hq:Int.tdiv (n:Int) 2=((n / 2:Nat):Int):=by rw[kG6 ω];omega
   have hr:Int.tmod (n:Int) 2=((n % 2:Nat):Int):=by rw[Int.tmod_eq_emod_of_nonneg ω];omega
   have qN:n / 2≤2000:=ω;obtain⟨q,qB⟩:=eE (n / 2);rw[←qB] at hq qN;have qA:Hid (q<n):=(by omega:q<n)
   have qV:∀ (U:World),DN U (.agg (Nu s2 T n2 D e2)) (un ((10^b:Nat):Int) 0)→_:=fun U h=>zR1 b b ω ω h h;by_cases I:n % 2=1
   ·rw[I] at hr;have qD:Hid (a+b+(b+b)*q=N):=(by
     have e:n=2*q+1:=ω;rw[e] at qG;have e2:b*(2*q+1)=b+(b+b)*q:=by rw[Nat.mul_add,Nat.add_mul,kM1,kN4 2 q,←kN6,Nat.mul_two];omega
     omega:a+b+(b+b)*q=N)
    have k1:=zR1 a b ω ω u.out.1.2 u.out.2.1.2;obtain⟨⟨c0,c1,c2⟩,-⟩:=qQ1 u.out.1.1;obtain⟨⟨d0,d1,d2⟩,-⟩:=qQ1 u.out.2.1.1;clear qG I qB
    go_wp2_with fail;refine k1.mono ?_;rintro r w3 ⟨s3,qF,n3,qH,e3,rfl,qL,qP⟩;clear k1 c0 c1 c2 d0 d1 d2;have C:Hid (TnB w F g4 (a+b) b (((w3.setCell ⟨F,0,none⟩ (.bool s3)).setCell ⟨F,1,none⟩ (.slice qF n3 qH)).setCell ⟨F,2,none⟩ (iV e3)) s3 qF n3 qH e3 s2 T n2 D e2):=u.out.put3 qP qL;obtain⟨⟨c0,c1,c2⟩,f0,f1,f2⟩:=qQ1 (u.out.1.later qP).1;clear qL qP u
    go_upto_region 6 with fail;obtain⟨U,hU⟩:=eE (((w3.setCell ⟨F,0,none⟩ (.bool s3)).setCell ⟨F,1,none⟩ (.slice qF n3 qH)).setCell ⟨F,2,none⟩ (iV e3));rw[←hU] at C ⊢;clear hU c0 c1 c2 f0 f1 f2;have k2:=qV U C.out.2.1.2;obtain⟨⟨d0,d1,d2⟩,-⟩:=qQ1 C.out.2.1.1
    go_wp2_with fail;refine k2.mono ?_;rintro r w4 ⟨s4,qJ,n4,qK,e4,rfl,qQ,H⟩;clear k2 d0 d1 d2;have qS:Hid (TnB w F g4 (a+b) (b+b) (((w4.setCell ⟨g4,0,none⟩ (.bool s4)).setCell ⟨g4,1,none⟩ (.slice qJ n4 qK)).setCell ⟨g4,2,none⟩ (iV e4)) s3 qF n3 qH e3 s4 qJ n4 qK e4):=C.out.put4 H qQ;obtain⟨⟨d0,d1,d2⟩,f0,f1,f2⟩:=qQ1 (C.out.2.1.later H).1;clear qQ H C qV
    go_wp2_with fail;exact⟨⟨q,a+b,b+b,_,_,_,_,_,_,_,_,_,_,qN,rfl,qD.out,qS⟩,by have qI:=qA.out;simp[intOf];omega⟩
   ·have qT:n % 2=0:=ω;rw[qT] at hr;have qD:Hid (a+(b+b)*q=N):=(by
     have e:n=2*q:=ω;rw[e] at qG;have e2:b*(2*q)=(b+b)*q:=by rw[←Nat.mul_two,kN6]
     omega:a+(b+b)*q=N)
    have k2:=qV wr u.out.2.1.2;obtain⟨⟨d0,d1,d2⟩,-⟩:=qQ1 u.out.2.1.1;clear qG I qB qT
    go_wp2_with fail;refine k2.mono ?_;rintro r w4 ⟨s4,qJ,n4,qK,e4,rfl,qQ,H⟩;clear k2 d0 d1 d2;have qS:Hid (TnB w F g4 a (b+b) (((w4.setCell ⟨g4,0,none⟩ (.bool s4)).setCell ⟨g4,1,none⟩ (.slice qJ n4 qK)).setCell ⟨g4,2,none⟩ (iV e4)) s1 J n1 Y e1 s4 qJ n4 qK e4):=u.out.put4 H qQ;obtain⟨⟨d0,d1,d2⟩,f0,f1,f2⟩:=qQ1 (u.out.2.1.later H).1;clear qQ H u qV
    go_wp2_with fail;exact⟨⟨q,a,b+b,_,_,_,_,_,_,_,_,_,_,qN,rfl,qD.out,qS⟩,by have qI:=qA.out;simp[intOf];omega⟩
  ·obtain rfl:n=0:=ω;obtain rfl:a=N:=ω;obtain⟨⟨c0,c1,c2⟩,-⟩:=qQ1 u.out.1.1;obtain⟨⟨d0,d1,d2⟩,f0,f1,f2⟩:=qQ1 u.out.2.2.1
   go_wp2_with fail;refine kB8 (kM2 rfl _ _ (w.heap.size) 54 (Nu s1 J n1 Y e1) (0,0) _ rfl (qZ9 _ _ _ u.out.2.2.1) Tryz.underlying54 rfl Tryz.info54) rfl ?_;exact⟨_,rfl,u.out.1.2.storeQ u.out.2.2.1 _ _ _,qQ4 u.out.2.2.2.1 lR _ _ _⟩
theorem xE3 {t:Bool×Nat×Int} (V:cn t.1 t.2.1 t.2.2=t) (J:t.2.1≠0):t.2.1 % 2=1:=by
 have Y:=(qX0 _ _ lR J).2;have H:t.2.1 / 2^tz t.2.1=t.2.1:=by
  have:=kU7 (fun u:Bool×Nat×Int=>u.2.1) V
  unfold cn at this;rw[kU5 J] at this;exact this
 rw[H] at Y;exact Y
theorem dtoQ {t:Bool×Nat×Int} {m:Int} (o:Gn t) (Y:1≤m∧m≤3) {W:World} {A:Value} (h:DN W A t):Ca 151 #[A,iV m] W (Rq W (.float .f64 (toD t m))):=by
 obtain⟨ao,cap,rfl,J⟩:=h;unfold toD;by_cases u:t.2.1=0
 ·rw[kU6 u,u,qQ5];exact rto_0 t.1 ao cap t.2.2 m W
 ·rw[kU5 u,qF5 Y];exact rto J.at_ J.le (xE3 o.1 u) (by have:=o.2.1;omega) (by have:=o.2.2.1;omega) (by have:=o.2.2.2;omega) Y
theorem dratQ {Y u:Bool×Nat×Int} {m:Int} (hx:dlen Y.2.1≤2048) (D:dlen u.2.1≤2048) (C : -65536≤Y.2.2∧Y.2.2≤65536) (L : -65536≤u.2.2∧u.2.2≤65536) (V:Y.2.1≠0) (J:u.2.1≠0) (T:1≤m∧m≤3) {W:World} {A B:Value} (h1:DN W A Y) (h2:DN W B u) :
  Ca 152 #[A,B,iV m] W (Rq W (.float .f64 (rtF Y u m))):=by
 obtain⟨ao,cap,rfl,I⟩:=h1;obtain⟨qQ,F,rfl,H⟩:=h2;exact yM6 I H hx D C L V J T (k:=rtK Y u) (by unfold rtK;omega)
def OutQ (W:World) (t:Bool×Nat×Int) (r:Ending) (w':World):Prop:=∃ (s1:Bool) (ao1:Option Addr) (n1 cp1:Nat) (e1:Int),r=.returned (.agg #[.bool s1,.slice ao1 n1 cp1,.int .i64 e1])∧DN w' (.agg #[.bool s1,.slice ao1 n1 cp1,.int .i64 e1]) t∧Bw W w'
theorem outQ {W w':World} {t:Bool×Nat×Int} {r:Ending} (h:∃ A,r=.returned A∧DN w' A t∧Bw W w'):OutQ W t r w':=by
 obtain⟨A,rfl,u,Y⟩:=h;obtain⟨s,ao,n,J,e,rfl⟩:=u.shape;exact⟨s,ao,n,J,e,rfl,u,Y⟩
theorem zV0 (n:Nat):decide (((n:Nat):Int)<0)=false:=kF1 ω
theorem xO0 {A p K bA:Nat} {X:Value} {w:World} (hK:pU p=K) (ha:A<2^bA) (qG:bA≤90000) (hp:p≤90000) (h1:DN w X (un (A:Int) p)) :
  Ca 48 #[X,iV 0] w fun u w'=>∃ V,u=.returned (.tuple #[V,.bool (decide (A % K=0))])∧DN w' V (un ((A / K:Nat):Int) 0)∧Bw w w':=by
 obtain⟨ao,cap,rfl,C⟩:=h1;have W:((A:Nat):Int).natAbs<2^bA:=by rw[kN1];exact ha
 have ea:=un_e (p:=p) W;have la:=qV9 (qH6 (p:=p) W);subst hK;by_cases a0:A=0
 ·subst a0;have e0:un ((0:Nat):Int) p=(false,0,0):=qP6 p;rw[e0] at C ⊢;rw[qQ5] at *;refine(xW2 false ao 0 cap 0 0 w δ δ ω ω).mono ?_
  rintro u w' ⟨rfl,H⟩;rw[Nat.zero_mod,Nat.zero_div,kF2 rfl];exact⟨_,rfl,⟨ao,cap,by rw[show un ((0:Nat):Int) 0=(false,0,0)from qP6 0,qQ5],by rw[show un ((0:Nat):Int) 0=(false,0,0)from qP6 0,qQ5];exact C.later H⟩,H⟩
 ·have I:((A:Nat):Int)≠0:=ω;have F:(un (A:Int) p).2.1≠0:=fun h=>I (qU2.2.1 h);obtain⟨qZ,Y,qQ⟩:=qW8 (a:=(A:Int)) (p:=p) I;rw[kN1] at Y qQ;have qJ:(un (A:Int) p).2.1 % 2=1:=by
   unfold un cn;rw[kU5 ω];exact(qX0 _ _ lR ω).2
  have qV:dlen (un (A:Int) p).2.1≠0:=fun e=>F (qQ8.1 e);have hs:(un (A:Int) p).1=false:=by rw[qZ];exact kF1 ω
  have qY:un (A:Int) p=(false,(un (A:Int) p).2.1,(un (A:Int) p).2.2):=by rw[←hs]
  rw[hs];generalize (un (A:Int) p).2.1=x at *;generalize (un (A:Int) p).2.2=e at *;generalize tz A=t at *;unfold pU;rcases Int.lt_or_le 0 (-(0:Int) - e)with hk|hk
  ·obtain⟨k,qX⟩:∃ k:Nat,-(0:Int) - e=k:=⟨(-(0:Int) - e).toNat,ω⟩;have D:p=t+k:=ω;refine(xW4 ao cap x k e 0 w C.at_ C.le F ω ω ω ω ω qX ω ω).mono ?_
   rintro u w' ⟨V,rfl,hN,H⟩;have L:A / 2^p=x / 2^k:=by
    rw[D,kN3,←Y,←kN0,Nat.mul_div_cancel _ (kF3 _)]
   have hm:A % 2^p≠0:=fun h=>by
    have h3:2^(t+k) ∣ x*2^t:=by rw[Y,←D];exact Nat.dvd_of_mod_eq_zero h
    rw[kH5,kN3] at h3;have h4:=Nat.dvd_of_mul_dvd_mul_right (kF3 _) h3;have h5:2 ∣ x:=Nat.dvd_trans (⟨2^(k - 1),by rw[kN4,←kN5];congr 1;omega⟩) h4
    omega
   rw[kF1 hm];refine⟨V,rfl,?_,H⟩
   have hd:=hN.dn;have J:cn false (x / 2^k) (-(0:Int))=un ((A / 2^p:Nat):Int) 0:=by
    rw[L];unfold un;rw[zV0,kN1];rfl
   rw[←J];exact hd
  ·refine(xW3 false ao (dlen x) cap e 0 w ω ω ω ω (by rw[kN2];omega) ω ω).mono ?_
   rintro u w' ⟨rfl,H⟩;have T:2^p ∣ A:=by
    rw[←Y];exact Nat.dvd_trans (Nat.pow_dvd_pow 2 ω) (Nat.dvd_mul_left _ _)
   rw[kF2 (Nat.mod_eq_zero_of_dvd T)];refine⟨_,rfl,?_,H⟩
   obtain⟨c,hc⟩:=T;have qK:A / 2^p=c:=by rw[hc,Nat.mul_div_cancel_left _ (kF3 _)]
   have qU:c≠0:=by rintro rfl;rw[Nat.mul_zero] at hc;exact a0 hc
   have J:((false,x,e):Bool×Nat×Int)=un ((A / 2^p:Nat):Int) 0:=by
    have h5:un ((c:Nat):Int) 0=un ((A:Nat):Int) p:=by
     have h6:=xP9 (c:Int) p;rw[h6];congr 1
     unfold pU;rw[hc,kN4];push_cast;rfl
    rw[qK,h5,qY]
   rw[←J];exact⟨ao,cap,rfl,C.later H⟩
theorem xI6 {A B p K bA bB:Nat} {X Y:Value} {w:World} (hK:pU p=K) (hB:0<B) (ha:A<2^bA) (qZ:B<2^bB) (qV:bA≤90000) (qJ:bB≤90000) (hp:p≤90000) (h1:DN w X (un (A:Int) p)) (h2:DN w Y (un (B:Int) 0)) :
  Ca 146 #[X,Y,iV 0] w fun u w'=>∃ V,u=.returned (.tuple #[V,.bool (decide (A % (B*K)=0))])∧DN w' V (un ((A / (B*K):Nat):Int) 0)∧Bw w w':=by
 obtain⟨ao,cap,rfl,a1⟩:=h1;obtain⟨qU,qY,rfl,a2⟩:=h2;have D:((A:Nat):Int).natAbs<2^bA:=by rw[kN1];exact ha
 have F:((B:Nat):Int).natAbs<2^bB:=by rw[kN1];exact qZ
 have ea:=un_e (p:=p) D;have eb:=un_e (p:=0) F;have la:=qV9 (qH6 (p:=p) D);have lb:=qV9 (qH6 (p:=0) F);have y0:(un (B:Int) 0).2.1≠0:=fun h=>by have:=qU2.2.1 h;omega
 have sa:(un (A:Int) p).1=false:=by unfold un cn;split;rfl;exact zV0 A
 have sb:(un (B:Int) 0).1=false:=by unfold un cn;split;rfl;exact zV0 B
 subst hK;have hP:=yI1 p;have C:decide (ovX (un (A:Int) p).2.1 (un (A:Int) p).2.2 (un (B:Int) 0).2.2 0 % ovY (un (B:Int) 0).2.1 (un (A:Int) p).2.2 (un (B:Int) 0).2.2 0=0)=decide (A % (B*pU p)=0)∧ovX (un (A:Int) p).2.1 (un (A:Int) p).2.2 (un (B:Int) 0).2.2 0 / ovY (un (B:Int) 0).2.1 (un (A:Int) p).2.2 (un (B:Int) 0).2.2 0=A / (B*pU p):=by
  by_cases a0:A=0
  ·subst a0;rw[show un ((0:Nat):Int) p=(false,0,0)from qP6 p];unfold ovX;simp
  ·obtain⟨qX,J,L⟩:=qW8 (a:=(B:Int)) (p:=0) ω;obtain⟨qK,H,W⟩:=qW8 (a:=(A:Int)) (p:=p) ω;rw[kN1] at H W J L;obtain⟨m,hm⟩:∃ m:Nat,(m:Int)=min ((un (A:Int) p).2.2+0) (un (B:Int) 0).2.2+p:=⟨(min ((un (A:Int) p).2.2+0) (un (B:Int) 0).2.2+p).toNat,ω⟩;have hX:ovX (un (A:Int) p).2.1 (un (A:Int) p).2.2 (un (B:Int) 0).2.2 0*2^m=A:=by
    have ee:((un (A:Int) p).2.2+0 - min ((un (A:Int) p).2.2+0) (un (B:Int) 0).2.2).toNat+m=tz A:=ω;unfold ovX;rw[kN6,←kN3,ee,H]
   have hY:ovY (un (B:Int) 0).2.1 (un (A:Int) p).2.2 (un (B:Int) 0).2.2 0*2^m=B*pU p:=by
    have ee:((un (B:Int) 0).2.2 - min ((un (A:Int) p).2.2+0) (un (B:Int) 0).2.2).toNat+m=tz B+p:=ω;unfold ovY pU;rw[kN6,←kN3,ee,kN3,←kN6,J]
   have I:=kF3 m;constructor
   ·conv=>rhs;rw[←hX,←hY,Nat.mul_mod_mul_right]
    by_cases h:ovX (un (A:Int) p).2.1 (un (A:Int) p).2.2 (un (B:Int) 0).2.2 0 % ovY (un (B:Int) 0).2.1 (un (A:Int) p).2.2 (un (B:Int) 0).2.2 0=0
    ·rw[kF2 h,h,Nat.zero_mul];rfl
    ·rw[kF1 h,kF1 (fun T=>by rcases Nat.mul_eq_zero.1 T with T|T;exact h T;omega)]
   ·conv=>rhs;rw[←hX,←hY]
    rw[Nat.mul_div_mul_right _ _ I]
 obtain⟨k1,k2⟩:=C;have h:=xT9 (na:=(un (A:Int) p).1) (nb:=(un (B:Int) 0).1) (ea:=(un (A:Int) p).2.2) (eb:=(un (B:Int) 0).2.2) (place:=0) a1.at_ a1.le a2.at_ a2.le y0 ω ω ⟨ω,ω⟩ ⟨ω,ω⟩ ⟨ω,ω⟩ rfl rfl;rw[k1,k2,sa,sb] at h;rw[sa,sb];refine h.mono ?_;rintro u w' ⟨V,e,hN,qQ⟩;refine⟨V,e,?_,qQ⟩
 have hd:=hN.dn;have e2:cn (false != false) (if((false != false) && !(decide (A % (B*pU p)=0)))=true then A / (B*pU p)+1 else A / (B*pU p)) (-(0:Int))=un ((A / (B*pU p):Nat):Int) 0:=by
  unfold un;rw[zV0,kN1];rfl
 rw[←e2];exact hd
def scF (A:Nat) (k:Int):Nat:=A*tnO k / (tnU k*kU)
def scE (A:Nat) (k:Int):Bool:=decide (A*tnO k % (tnU k*kU)=0)
end Go.Proofs.YtfkaogdmlcdceaaGreatDoor
namespace Go.Proofs.YtfkaogdmlcdceaaGreatDoor
open Go.RowKit Go.Fl64
attribute [local go_sem] iV Nu
theorem DN.keepN {F V:World} {n:Nat} {W:Nat→Nat} {B:Nat} {A:Value} {t:Bool×Nat×Int} {T:TypeId} (I:KeepB n W B F V) (Y:∀ k,k<n→∃ cs,F.heap[W k]?=some (.cells cs T (0,0))∧NC3 cs) (h:DN F A t):DN V A t:=by
 obtain⟨ao,cap,rfl,J⟩:=h;obtain⟨H,o,h4,h5⟩:=J.at_;refine⟨ao,cap,rfl,J.nil,⟨H,o,h4,fun i hi=>?_⟩,J.le,J.small⟩
 have u:=h5 i hi;have L:H<F.heap.size:=World.block_lt_of_cell? _ _ u;have D:∀ k,k<n→H≠W k:=by
  rintro k C rfl;obtain⟨cs,hE,_,_,_,_,_,rfl⟩:=Y k C;simp only[World.cell?,hE] at u;rcases(show o+i=0∨o+i=1∨o+i=2∨3≤o+i by omega)with e|e|e|e
  ·rw[e] at u;simp at u
  ·rw[e] at u;simp at u
  ·rw[e] at u;simp at u
  ·rw[Array.getElem?_eq_none (by simpa using e)] at u;cases u
 have:=I.keep H L D
 unfold World.cell? at u ⊢;rw[this];exact u
theorem DN.row3 {W:World} {A:Value} {t:Bool×Nat×Int} {g:Nat} {T:TypeId} {cs:Array Value} (h:DN W A t) (D:W.heap[g]?=some (.cells cs T (0,0))) (L:NC3 cs) (Y:Array Value):DN (W.setRow g Y) A t:=by
 obtain⟨ao,cap,rfl,J⟩:=h;obtain⟨H,o,I,C⟩:=J.at_;obtain⟨_,_,_,_,_,rfl⟩:=L;refine⟨ao,cap,rfl,J.nil,⟨H,o,I,fun i hi=>?_⟩,J.le,J.small⟩
 have u:=C i hi;have V:H≠g:=by
  rintro rfl;simp only[World.cell?,D] at u;rcases(show o+i=0∨o+i=1∨o+i=2∨3≤o+i by omega)with e|e|e|e
  ·rw[e] at u;simp at u
  ·rw[e] at u;simp at u
  ·rw[e] at u;simp at u
  ·rw[Array.getElem?_eq_none (by simpa using e)] at u;cases u
 have F:=setRow_other W g H Y V;unfold World.cell? at u ⊢;rw[F];exact u
theorem qJ6 (t:Bool×Nat×Int):∀ w u g cs Y,w.heap[g]?=some (.cells cs 54 (0,0))→NC3 cs→isD t w u→isD t (w.setRow g Y) u:=fun w u g cs Y h J V=>DN.row3 V h J _
end Go.Proofs.YtfkaogdmlcdceaaGreatDoor
namespace Go.Proofs.YtfkaogdmlcdceaaGreatDoor
open Go Go.RowKit Go.Fl64
attribute [local go_sem] iV Nu
def isQ2 (t:Bool×Nat×Int) (b:Bool):World→Value→Prop:=fun w u=>∃ A,u=.tuple #[A,.bool b]∧DN w A t
theorem zQ2 (t:Bool×Nat×Int) (b:Bool):zK4 (isQ2 t b):=fun _ _ _ u ⟨A,J,Y⟩=>⟨A,J,Y.later u⟩
theorem zQ3 (t:Bool×Nat×Int) (b:Bool):∀ w u g cs Y,w.heap[g]?=some (.cells cs 54 (0,0))→NC3 cs→isQ2 t b w u→isQ2 t b (w.setRow g Y) u:=fun w u g cs Y h J ⟨A,H,V⟩=>⟨A,H,DN.row3 V h J _⟩
theorem zV8 (t:Bool×Nat×Int):∀ w u g Y,Hn w g false none 0 0 0 54→isD t w u→isD t (w.setRow g Y) u:=fun w u g Y J V=>DN.row3 V J ⟨_,_,_,_,_,rfl⟩ Y
def OutS (W:World) (t:Bool×Nat×Int) (b:Bool) (r:Ending) (w':World):Prop:=∃ (s1:Bool) (ao1:Option Addr) (n1 cp1:Nat) (e1:Int),r=.returned (.tuple #[.agg #[.bool s1,.slice ao1 n1 cp1,.int .i64 e1],.bool b])∧DN w' (.agg #[.bool s1,.slice ao1 n1 cp1,.int .i64 e1]) t∧Bw W w'
theorem outS {W w':World} {t:Bool×Nat×Int} {b:Bool} {r:Ending} (h:∃ A,r=.returned (.tuple #[A,.bool b])∧DN w' A t∧Bw W w'):OutS W t b r w':=by
 obtain⟨A,rfl,u,Y⟩:=h;obtain⟨s,ao,n,J,e,rfl⟩:=u.shape;exact⟨s,ao,n,J,e,rfl,u,Y⟩
theorem zC7 (I:Bool) (H:Option Addr) (n0 V:Nat) (e0:Int) (k:Int) (ta tT tM tR:Bool×Nat×Int) (b:Bool) (w:World) (hA:DN w (.agg (Nu I H n0 V e0)) ta) (hk:0≤k)
  (kT:Hid (∀ W,Ca 38 #[iV k] W fun r w'=>OutQ W tT r w'))
  (kM:Hid (∀ W X Y,DN W X ta→DN W Y tT→Ca 39 #[X,Y] W fun r w'=>OutQ W tM r w'))
  (kC:Hid (∀ W X,DN W X tM→Ca 48 #[X,iV 0] W fun r w'=>OutS W tR b r w')) :
  Ca 82 #[.agg (Nu I H n0 V e0),iV k] w fun r w'=>OutS w tR b r w':=by
 obtain⟨W,hW⟩:=eE ((w.alloc (.cells (Nu I H n0 V e0) 54)).alloc (.cells (Nu false none 0 0 0) 54));have H0:Hid (Hn W w.heap.size I H n0 V e0 54∧Hn W (w.heap.size+1) false none 0 0 0 54∧W.heap.size=w.heap.size+1+1∧Bw w W∧DN W (.agg (Nu I H n0 V e0)) ta):=by
  obtain⟨y1,y2,y3,y4⟩:=qG9 _ _ hW;exact⟨y1,y2,y3,y4,hA.later y4⟩
 have qG:∀ i,i<1→∃ cs,Hx W ((fun _=>w.heap.size+1:Nat→Nat) i) cs 54∧NC3 cs:=fun i hi=>⟨_,H0.out.2.1,_,_,_,_,_,rfl⟩
 go_enter Tryz.func82,Tryz.ntmps82
 go_upto_region 1 with fail;rw[←hW];clear hW hA
 go_upto_region 2 with fail;refine qG4 qX2 [0,1,2,3,4,5,6,8] [7] [8,9,10,11,12,13,14,5] [[],[],[1],[0,2],[3],[4],[4],[6]] [[5]] [5] (fun _=>4) (fun _=>w.heap.size+1) (w.heap.size+1) 54 NC3 3 W _ [isV (.agg (Nu I H n0 V e0)),isV (iV k),isD (tT),isD (tM),isQ2 (tR) (b),isD (tR),isV (.bool b),isV (.bool b)] (by kernel_rfl) ⟨qQ2 _,qQ2 _,qX9 _,qX9 _,zQ2 _ _,qX9 _,qQ2 _,qQ2 _,trivial⟩ ⟨qK4 _ _ _,qK4 _ _ _,qJ6 _,qJ6 _,zQ3 _ _,qJ6 _,qK4 _ _ _,qK4 _ _ _,trivial⟩ (by show ∀ s ∈ [8,9,10,11,12,13,14,5],s<22;decide) ?_ ?_ Tryz.info54 ?_ ?_ ?_ ?_ (by have:=H0.out.2.2.1;omega) ?_
 ·intro i hi U u h;obtain rfl:i=0:=Nat.lt_one_iff.1 hi;obtain⟨s9,C,n9,L,e9,rfl⟩:=DN.shape (show DN U u _ from h);exact⟨_,rfl,rfl,⟨_,_,_,_,_,rfl⟩,one3 rfl rfl⟩
 ·intro j hj o ho act U hK F J qB;have qN:j<8:=hj;have qJ:act.tmps[(2:Nat)]?=some (Value.pointer (some ⟨w.heap.size,0,none⟩)):=(F 2 δ).trans rfl;have qF:act.tmps[(4:Nat)]?=some (Value.pointer (some ⟨w.heap.size+1,0,none⟩)):=(F 4 δ).trans rfl;have qV:act.tmps[(1:Nat)]?=some (iV k):=(F 1 δ).trans rfl;have dA:Hn U w.heap.size I H n0 V e0 54:=(hK.keep w.heap.size (by have:=H0.out.2.2.1;omega) (fun i hi=>by show w.heap.size≠w.heap.size+1;omega)).trans H0.out.1
  have d2:=(qQ1 dA).1;rcases(by omega:j=0∨j=1∨j=2∨j=3∨j=4∨j=5∨j=6∨j=7)with rfl|rfl|rfl|rfl|rfl|rfl|rfl|rfl
  ·obtain rfl:=kF0 ho;exact .inl ⟨rfl,qJ0 rfl qJ d2.1 d2.2.1 d2.2.2 ⟨_,rfl,rfl,kH9 _ _⟩⟩
  ·obtain rfl:=kF0 ho;exact .inl ⟨rfl,qZ7 rfl qV ⟨_,rfl,rfl,kH9 _ _⟩⟩
  ·obtain rfl:=kF0 ho;have y1:act.tmps[(9:Nat)]?=_:=dV (J 1 (by simp[dL])) rfl
   refine .inl ⟨rfl,qQ9 rfl (qZ4 Tryz.func38 (by kernel_rfl) (by kernel_rfl)) (vs:=#[iV k]) (by simp[qZ1 y1]) ?_⟩
   refine(kT.out U).mono ?_
   rintro r w' ⟨s9,C,n9,L,e9,rfl,T,D⟩;exact⟨_,rfl,_,rfl,T,D⟩
  ·obtain rfl:=kF0 ho;have y0:act.tmps[(8:Nat)]?=_:=dV (J 0 (by simp[dL])) rfl
   obtain⟨u2,qK,v2⟩:=J 2 (by simp[dL])
   have y2:act.tmps[(10:Nat)]?=_:=qK;refine .inl ⟨rfl,qQ9 rfl (qZ4 Tryz.func39 (by kernel_rfl) (by kernel_rfl)) (vs:=#[.agg (Nu I H n0 V e0),u2]) (by simp[qZ1 y0,qZ1 y2]) ?_⟩
   refine(kM.out U _ _ (H0.out.2.2.2.2.keepN hK qG) v2).mono ?_
   rintro r w' ⟨s9,C,n9,L,e9,rfl,T,D⟩;exact⟨_,rfl,_,rfl,T,D⟩
  ·obtain rfl:=kF0 ho;obtain⟨u3,qX,v3⟩:=J 3 (by simp[dL])
   have y3:act.tmps[(11:Nat)]?=_:=qX;refine .inl ⟨rfl,qQ9 rfl (qZ4 Tryz.func48 (by kernel_rfl) (by kernel_rfl)) (vs:=#[u3,(Value.int IntKind.i64 0)]) (by simp[qZ1 y3,qY1]) ?_⟩
   refine(kC.out U _ v3).mono ?_
   rintro r w' ⟨s9,C,n9,L,e9,rfl,T,D⟩;exact⟨_,rfl,_,rfl,⟨_,rfl,T⟩,D⟩
  ·obtain rfl:=kF0 ho;obtain⟨u4,qQ,v4⟩:=J 4 (by simp[dL])
   have y4:act.tmps[(12:Nat)]?=_:=qQ;obtain⟨A,rfl,vA⟩:=v4;exact .inl ⟨rfl,qJ9 rfl y4 rfl ⟨_,rfl,vA,kH9 _ _⟩⟩
  ·obtain rfl:=kF0 ho;obtain⟨u4,qQ,v4⟩:=J 4 (by simp[dL])
   have y4:act.tmps[(12:Nat)]?=_:=qQ;obtain⟨A,rfl,vA⟩:=v4;exact .inl ⟨rfl,qJ9 rfl y4 rfl ⟨_,rfl,rfl,kH9 _ _⟩⟩
  ·obtain rfl:=kF0 ho;have y6:act.tmps[(14:Nat)]?=_:=dV (J 6 (by simp[dL])) rfl
   exact .inl ⟨rfl,qX5 rfl y6 ⟨_,rfl,rfl,kH9 _ _⟩⟩
 ·intro i hi;obtain rfl:i=0:=Nat.lt_one_iff.1 hi;exact⟨_,rfl,rfl⟩
 ·intro i hi;exact⟨rfl,δ⟩
 ·intro i hi;exact⟨by show w.heap.size+1≤w.heap.size+1;omega,_,H0.out.2.1,rfl,_,_,_,_,_,rfl⟩
 ·intro i i' hi qU _;exact(Nat.lt_one_iff.1 hi).trans (Nat.lt_one_iff.1 qU).symm
 ·intro u U hK hu qY;obtain⟨qH,ya,z9⟩:=qY 0 δ;have q9:DN U (u 5) _:=hu 5 (by show 5<8;decide)
  have qZ:u 5=.agg qH:=ya;rw[qZ] at q9;obtain⟨s9,C,n9,L,e9,h9⟩:=DN.shape q9;obtain rfl:=Value.agg.inj h9;have u7:u 7=.bool b:=hu 7 (by show 7<8;decide)
  clear hu qY ya qZ;simp only[putL,show List.range 8 = [0,1,2,3,4,5,6,7] from rfl,kG2,kG3,kG4,kG5,kH2,kH3,kH0,kG9,List.foldl_cons,List.foldl_nil,Nat.reduceLT,Nat.reduceMod,Nat.reduceDiv,Nat.reduceMul,Nat.reduceAdd,Nat.reduceEqDiff,reduceIte,kG8,Act.put,kU9,kG0,kG1];rw[u7];clear u7;have HB:Hid (Bw w U):=H0.out.2.2.2.1.trans (hK.below.mono ω);have z9:U.heap[w.heap.size+1]?=_:=z9;clear hK
  go_wp2_with fail;refine kB8 (qQ6 rfl _ _ (w.heap.size+1) 54 (Nu s9 C n9 L e9) (0,0) _ rfl z9 Tryz.underlying54 rfl Tryz.info54) rfl ?_;exact⟨_,_,_,_,_,rfl,q9,HB.out⟩
theorem zC8 (L:Bool) (H:Option Addr) (C V:Nat) (e0:Int) (k:Int) (ta tT tR:Bool×Nat×Int) (b:Bool) (w:World) (hA:DN w (.agg (Nu L H C V e0)) ta) (hk:¬ 0≤k) (qG:IntKind.i64.wrap (-k) = -k)
  (kT:Hid (∀ W,Ca 38 #[iV (-k)] W fun r w'=>OutQ W tT r w'))
  (kO:Hid (∀ W X Y,DN W X ta→DN W Y tT→Ca 146 #[X,Y,iV 0] W fun r w'=>OutS W tR b r w')) :
  Ca 82 #[.agg (Nu L H C V e0),iV k] w fun r w'=>OutS w tR b r w':=by
 obtain⟨W,hW⟩:=eE ((w.alloc (.cells (Nu L H C V e0) 54)).alloc (.cells (Nu false none 0 0 0) 54));have H0:Hid (Hn W w.heap.size L H C V e0 54∧Hn W (w.heap.size+1) false none 0 0 0 54∧W.heap.size=w.heap.size+1+1∧Bw w W∧DN W (.agg (Nu L H C V e0)) ta):=by
  obtain⟨y1,y2,y3,y4⟩:=qG9 _ _ hW;exact⟨y1,y2,y3,y4,hA.later y4⟩
 have qF:∀ i,i<1→∃ cs,Hx W ((fun _=>w.heap.size+1:Nat→Nat) i) cs 54∧NC3 cs:=fun i hi=>⟨_,H0.out.2.1,_,_,_,_,_,rfl⟩
 go_enter Tryz.func82,Tryz.ntmps82
 go_upto_region 1 with fail;rw[←hW];clear hW hA
 go_upto_region 3 with fail;refine qG4 qX2 [0,1,2,3,4,5,6,8] [7] [15,16,17,18,19,20,21,5] [[],[],[1],[2],[0,3],[4],[4],[6]] [[5]] [5] (fun _=>4) (fun _=>w.heap.size+1) (w.heap.size+1) 54 NC3 3 W _ [isV (.agg (Nu L H C V e0)),isV (iV k),isV (iV (-k)),isD (tT),isQ2 (tR) (b),isD (tR),isV (.bool b),isV (.bool b)] (by kernel_rfl) ⟨qQ2 _,qQ2 _,qQ2 _,qX9 _,zQ2 _ _,qX9 _,qQ2 _,qQ2 _,trivial⟩ ⟨qK4 _ _ _,qK4 _ _ _,qK4 _ _ _,qJ6 _,zQ3 _ _,qJ6 _,qK4 _ _ _,qK4 _ _ _,trivial⟩ (by show ∀ s ∈ [15,16,17,18,19,20,21,5],s<22;decide) ?_ ?_ Tryz.info54 ?_ ?_ ?_ ?_ (by have:=H0.out.2.2.1;omega) ?_
 ·intro i hi U u h;obtain rfl:i=0:=Nat.lt_one_iff.1 hi;obtain⟨s9,T,n9,D,e9,rfl⟩:=DN.shape (show DN U u _ from h);exact⟨_,rfl,rfl,⟨_,_,_,_,_,rfl⟩,one3 rfl rfl⟩
 ·intro j hj o I act U hK F J qM;have qP:j<8:=hj;have qV:act.tmps[(2:Nat)]?=some (Value.pointer (some ⟨w.heap.size,0,none⟩)):=(F 2 δ).trans rfl;have qN:act.tmps[(4:Nat)]?=some (Value.pointer (some ⟨w.heap.size+1,0,none⟩)):=(F 4 δ).trans rfl;have qU:act.tmps[(1:Nat)]?=some (iV k):=(F 1 δ).trans rfl;have dA:Hn U w.heap.size L H C V e0 54:=(hK.keep w.heap.size (by have:=H0.out.2.2.1;omega) (fun i hi=>by show w.heap.size≠w.heap.size+1;omega)).trans H0.out.1
  have d2:=(qQ1 dA).1;rcases(by omega:j=0∨j=1∨j=2∨j=3∨j=4∨j=5∨j=6∨j=7)with rfl|rfl|rfl|rfl|rfl|rfl|rfl|rfl
  ·obtain rfl:=kF0 I;exact .inl ⟨rfl,qJ0 rfl qV d2.1 d2.2.1 d2.2.2 ⟨_,rfl,rfl,kH9 _ _⟩⟩
  ·obtain rfl:=kF0 I;exact .inl ⟨rfl,qZ7 rfl qU ⟨_,rfl,rfl,kH9 _ _⟩⟩
  ·obtain rfl:=kF0 I;have y1:act.tmps[(16:Nat)]?=_:=dV (J 1 (by simp[dL])) rfl
   exact .inl ⟨rfl,qZ6 (w':=U) (by simp[execOp,y1,qY1,go_sem,qG]) ⟨_,rfl,rfl,kH9 _ _⟩⟩
  ·obtain rfl:=kF0 I;have y2:act.tmps[(17:Nat)]?=_:=dV (J 2 (by simp[dL])) rfl
   refine .inl ⟨rfl,qQ9 rfl (qZ4 Tryz.func38 (by kernel_rfl) (by kernel_rfl)) (vs:=#[iV (-k)]) (by simp[qZ1 y2]) ?_⟩
   refine(kT.out U).mono ?_
   rintro r w' ⟨s9,T,n9,D,e9,rfl,qY,qZ⟩;exact⟨_,rfl,_,rfl,qY,qZ⟩
  ·obtain rfl:=kF0 I;have y0:act.tmps[(15:Nat)]?=_:=dV (J 0 (by simp[dL])) rfl
   obtain⟨u3,qJ,v3⟩:=J 3 (by simp[dL])
   have y3:act.tmps[(18:Nat)]?=_:=qJ;refine .inl ⟨rfl,qQ9 rfl (qZ4 Tryz.func146 (by kernel_rfl) (by kernel_rfl)) (vs:=#[.agg (Nu L H C V e0),u3,(Value.int IntKind.i64 0)]) (by simp[qZ1 y0,qZ1 y3,qY1]) ?_⟩
   refine(kO.out U _ _ (H0.out.2.2.2.2.keepN hK qF) v3).mono ?_
   rintro r w' ⟨s9,T,n9,D,e9,rfl,qY,qZ⟩;exact⟨_,rfl,_,rfl,⟨_,rfl,qY⟩,qZ⟩
  ·obtain rfl:=kF0 I;obtain⟨u4,qQ,v4⟩:=J 4 (by simp[dL])
   have y4:act.tmps[(19:Nat)]?=_:=qQ;obtain⟨A,rfl,vA⟩:=v4;exact .inl ⟨rfl,qJ9 rfl y4 rfl ⟨_,rfl,vA,kH9 _ _⟩⟩
  ·obtain rfl:=kF0 I;obtain⟨u4,qQ,v4⟩:=J 4 (by simp[dL])
   have y4:act.tmps[(19:Nat)]?=_:=qQ;obtain⟨A,rfl,vA⟩:=v4;exact .inl ⟨rfl,qJ9 rfl y4 rfl ⟨_,rfl,rfl,kH9 _ _⟩⟩
  ·obtain rfl:=kF0 I;have y6:act.tmps[(21:Nat)]?=_:=dV (J 6 (by simp[dL])) rfl
   exact .inl ⟨rfl,qX5 rfl y6 ⟨_,rfl,rfl,kH9 _ _⟩⟩
 ·intro i hi;obtain rfl:i=0:=Nat.lt_one_iff.1 hi;exact⟨_,rfl,rfl⟩
 ·intro i hi;exact⟨rfl,δ⟩
 ·intro i hi;exact⟨by show w.heap.size+1≤w.heap.size+1;omega,_,H0.out.2.1,rfl,_,_,_,_,_,rfl⟩
 ·intro i i' hi qH _;exact(Nat.lt_one_iff.1 hi).trans (Nat.lt_one_iff.1 qH).symm
 ·intro u U hK hu qK;obtain⟨qB,ya,z9⟩:=qK 0 δ;have q9:DN U (u 5) _:=hu 5 (by show 5<8;decide)
  have qX:u 5=.agg qB:=ya;rw[qX] at q9;obtain⟨s9,T,n9,D,e9,h9⟩:=DN.shape q9;obtain rfl:=Value.agg.inj h9;have u7:u 7=.bool b:=hu 7 (by show 7<8;decide)
  clear hu qK ya qX;simp only[putL,show List.range 8 = [0,1,2,3,4,5,6,7] from rfl,kG2,kG3,kG4,kG5,kH2,kH3,kH0,kG9,List.foldl_cons,List.foldl_nil,Nat.reduceLT,Nat.reduceMod,Nat.reduceDiv,Nat.reduceMul,Nat.reduceAdd,Nat.reduceEqDiff,reduceIte,kG8,Act.put,kU9,kG0,kG1];rw[u7];clear u7;have HB:Hid (Bw w U):=H0.out.2.2.2.1.trans (hK.below.mono ω);have z9:U.heap[w.heap.size+1]?=_:=z9;clear hK
  go_wp2_with fail;refine kB8 (qQ6 rfl _ _ (w.heap.size+1) 54 (Nu s9 T n9 D e9) (0,0) _ rfl z9 Tryz.underlying54 rfl Tryz.info54) rfl ?_;exact⟨_,_,_,_,_,rfl,q9,HB.out⟩
end Go.Proofs.YtfkaogdmlcdceaaGreatDoor
