/- Own work: contracts of the program's functions, part 9: FM FM2 F1 F6 F7 FM3 L6 L8 FM4 FM5 RT0 RT1 RT3 RT7 RY1 RY2 RY3 RY4 FM6 FM7 FM8 RY5 SA7. -/
import Derived.Test.YtfkaogdmlcdceaaGreatDoorA1
import Derived.Test.YtfkaogdmlcdceaaGreatDoorA4
import Derived.Test.YtfkaogdmlcdceaaGreatDoorA3
import Derived.Test.YtfkaogdmlcdceaaGreatDoorA5
import Derived.Test.YtfkaogdmlcdceaaGreatDoorA6
import Derived.Test.YtfkaogdmlcdceaaGreatDoorA7
import Derived.Deep.CutBlock
import Derived.Test.YtfkaogdmlcdceaaGreatDoorA8

set_option maxHeartbeats 16000000
set_option maxRecDepth 200000
set_option linter.unusedVariables false
set_option linter.unusedSimpArgs false
namespace Go.Proofs.YtfkaogdmlcdceaaGreatDoor
attribute [local go_sem] iV Nu
def bv (b:Nat):Nat:=if b<4503599627370496 then b else(4503599627370496+b % 4503599627370496)*2^(b / 4503599627370496 - 1)
theorem qD3 {j q:Nat} (h:(j=0∧q≤9007199254740992)∨(4503599627370496≤q∧q≤9007199254740992)):bv (j*4503599627370496+q)=q*2^j:=by
 unfold bv;by_cases u:j*4503599627370496+q<4503599627370496
 ·have Y:j=0:=ω;subst Y;rw[kU6 u];simp
 ·rw[kU5 u];by_cases J:q=9007199254740992
  ·subst J;rw[show(j*4503599627370496+9007199254740992) % 4503599627370496=0 by omega,show(j*4503599627370496+9007199254740992) / 4503599627370496 - 1=j+1 by omega,kN5]
   omega
  ·have V:4503599627370496≤q:=ω;rw[show(j*4503599627370496+q) % 4503599627370496=q - 4503599627370496 by omega,show(j*4503599627370496+q) / 4503599627370496 - 1=j by omega]
   rw[show 4503599627370496+(q - 4503599627370496)=q by omega]
theorem yH3 (b:Nat):∃ j q,b=j*4503599627370496+q∧bv b=q*2^j∧bv (b+1)=(q+1)*2^j:=by
 by_cases h:b<4503599627370496
 ·refine⟨0,b,ω,?_,?_⟩
  ·have:=qD3 (j:=0) (q:=b) (.inl ⟨rfl,ω⟩);simpa using this
  ·have:=qD3 (j:=0) (q:=b+1) (.inl ⟨rfl,ω⟩);simpa using this
 ·have e:b=(b / 4503599627370496 - 1)*4503599627370496+(4503599627370496+b % 4503599627370496):=ω;refine⟨_,_,e,?_,?_⟩
  ·have:=qD3 (j:=b / 4503599627370496 - 1) (q:=4503599627370496+b % 4503599627370496) (.inr ⟨ω,ω⟩)
   rw[←e] at this;exact this
  ·have:=qD3 (j:=b / 4503599627370496 - 1) (q:=4503599627370496+b % 4503599627370496+1) (.inr ⟨ω,ω⟩)
   rw[←kH4,←e] at this;exact this
theorem qN7 (b:Nat):bv b<bv (b+1):=by
 obtain⟨j,q,-,Y,u⟩:=yH3 b;rw[Y,u];exact kM4 ω (kF3 j)
theorem zY9 {a b:Nat} (h:a<b):bv a<bv b:=by
 induction b with
 | zero=>omega
 | succ b ih =>
  by_cases u:a<b
  ·exact Nat.lt_trans (ih u) (qN7 b)
  ·obtain rfl:a=b:=ω;exact qN7 a
theorem yH0 {a b:Nat} (h:a≤b):bv a≤bv b:=by
 by_cases u:a=b
 ·rw[u];exact kH8 _
 ·exact kM8 (zY9 ω)
theorem yH1 {a b:Nat} (h:bv a<bv b):a<b:=by
 apply Decidable.byContradiction
 intro u;have:=yH0 (a:=b) (b:=a) ω
 omega
structure IsR (x:Nat) (e:Int) (j X k:Nat):Prop where
 eq:∀ K:Nat,0≤e+K→0≤(j:Int) - 1074 - k+K→X*2^((j:Int) - 1074 - k+K).toNat=x*2^(e+K).toNat
 lt:X / 2^k<9007199254740992
 ge:j=0∨4503599627370496≤X / 2^k
structure Lies (A u b:Nat) (r m:Nat):Prop where
 lo:bv b*u≤A
 hi:A<bv (b+1)*u
 ex:r=0↔A=bv b*u
 half_lt:2*r<m↔2*A<(bv b+bv (b+1))*u
 half_eq:2*r=m↔2*A=(bv b+bv (b+1))*u
theorem IsR.lies {x:Nat} {e:Int} {j X k:Nat} (h:IsR x e j X k) {K:Nat} (hK:1074≤K) (h1:0≤e+K) (h2:0≤(j:Int) - 1074 - k+K) :
  Lies (x*2^(e+K).toNat) (2^(K - 1074)) (j*4503599627370496+X / 2^k) (X % 2^k) (2^k):=by
 have eq:=h.eq K h1 h2;have hl:=h.lt;have C:=h.ge;have b0:bv (j*4503599627370496+X / 2^k)=X / 2^k*2^j:=qD3 (j:=j) (q:=X / 2^k) (by
  generalize X / 2^k=q at *;rcases C with g|g
  ·exact .inl ⟨g,ω⟩
  ·exact .inr ⟨g,ω⟩)
 have b1:bv (j*4503599627370496+X / 2^k+1)=(X / 2^k+1)*2^j:=by
  have:=qD3 (j:=j) (q:=X / 2^k+1) (by
   generalize X / 2^k=q at *;rcases C with g|g
   ·exact .inl ⟨g,ω⟩
   ·exact .inr ⟨ω,ω⟩)
  rw[←kH4] at this;exact this
 have W:2^j*2^(K - 1074)=2^k*2^((j:Int) - 1074 - k+K).toNat:=by
  rw[←kN3,←kN3,show j+(K - 1074)=k+((j:Int) - 1074 - k+K).toNat by omega]
 have hX:=(Nat.div_add_mod X (2^k)).symm;have hr:X % 2^k<2^k:=kB3 _ (kF3 k);have I:0<2^((j:Int) - 1074 - k+K).toNat:=kF3 _;rw[←eq];generalize 2^((j:Int) - 1074 - k+K).toNat=U at *;generalize X / 2^k=q at *;generalize X % 2^k=r at *;generalize 2^k=M at *;generalize 2^j=J at *;generalize 2^(K - 1074)=u at *;have H:bv (j*4503599627370496+q)*u=q*(M*U):=by rw[b0,kN6,W]
 have L:bv (j*4503599627370496+q+1)*u=(q+1)*(M*U):=by rw[b1,kN6,W]
 have V:X*U=q*(M*U)+r*U:=by rw[hX,Nat.add_mul];congr 1;rw[←kN6,kN4 q M]
 have Y:(q+1)*(M*U)=q*(M*U)+M*U:=by rw[Nat.add_mul,Nat.one_mul]
 have qQ:=kM4 hr I;have F:r=0↔r*U=0:=by
  constructor
  ·rintro rfl;simp
  ·intro h;rcases Nat.mul_eq_zero.1 h with h|h
   ·exact h
   ·omega
 have T:2*r<M↔2*(r*U)<M*U:=by
  rw[←kN6];exact(Nat.mul_lt_mul_right I).symm
 have D:2*r=M↔2*(r*U)=M*U:=by
  rw[←kN6];exact(Nat.mul_left_inj ω).symm
 refine⟨?_,?_,?_,?_,?_⟩
 ·rw[H,V];omega
 ·rw[L,V,Y];omega
 ·rw[F,H,V];omega
 ·rw[T,Nat.add_mul,H,L,V,Y];omega
 ·rw[D,Nat.add_mul,H,L,V,Y];omega
structure Rounds (A u b way:Nat):Prop where
 fl:∃ b0,(bv b0*u≤A∧A<bv (b0+1)*u)∧(way=0→b=b0)∧(way=2→b=if A=bv b0*u then b0 else b0+1)∧(way=1→b=if 2*A<(bv b0+bv (b0+1))*u then b0 else if 2*A=(bv b0+bv (b0+1))*u then b0+b0 % 2 else b0+1)
theorem zQ4 {A J u b Y:Nat} (h:A≤J) (D:bv b*u≤A) (F:J<bv (Y+1)*u):b≤Y:=by
 have H:bv b*u<bv (Y+1)*u:=ω;have V:=Nat.lt_of_mul_lt_mul_right H;have:=yH1 V
 omega
theorem Rounds.mono {A H u b C way:Nat} (V:way=0∨way=1∨way=2) (h:Rounds A u b way) (h':Rounds H u C way) (L:A≤H):b≤C:=by
 obtain⟨Y,⟨l,g⟩,w0,I,w1⟩:=h.fl;obtain⟨J,⟨l',g'⟩,T,F,D⟩:=h'.fl;have hb:=zQ4 L l g';rcases V with V|V|V
 ·rw[w0 V,T V];exact hb
 ·rw[w1 V,D V];by_cases W:Y=J
  ·subst W;split
   ·split
    ·exact kH8 _
    ·split <;> omega
   ·split
    ·split
     ·omega
     ·split
      ·exact kH8 _
      ·have:Y % 2<2:=kB3 _ ω
       omega
    ·rw[kU5 ω,kU5 ω];exact kH8 _
  ·have qQ:Y<J:=ω;have h1:(if 2*A<(bv Y+bv (Y+1))*u then Y else if 2*A=(bv Y+bv (Y+1))*u then Y+Y % 2 else Y+1)≤Y+1:=by
    split
    ·omega
    ·split <;> omega
   have h2:J≤(if 2*H<(bv J+bv (J+1))*u then J else if 2*H=(bv J+bv (J+1))*u then J+J % 2 else J+1):=by
    split
    ·omega
    ·split <;> omega
   omega
 ·rw[I V,F V];by_cases W:Y=J
  ·subst W;split
   ·split <;> omega
   ·rw[kU5 ω];exact kH8 _
  ·split
   ·split <;> omega
   ·split <;> omega
end Go.Proofs.YtfkaogdmlcdceaaGreatDoor
namespace Go.Proofs.YtfkaogdmlcdceaaGreatDoor
open Go.RowKit Go.Fl64
open Ie
attribute [local go_sem] iV Nu
theorem zB8 (y:Nat):(y ||| 1) / 2=y / 2:=by rw[Nat.or_div_two];simp
theorem zC2 (y:Nat):(y ||| 1) % 2=1:=Nat.or_mod_two_eq_one.2 (.inr rfl)
theorem zJ9 (y:Nat):y ||| 1=2*(y / 2)+1:=by
 have Y:=zB8 y;have u:=zC2 y;omega
theorem zW5 {x D k y m:Nat} {way:Int} (hk:2≤k) (hy:y=x / 2^D) (Y:(x % 2^D=0∧m=y)∨(x % 2^D≠0∧m=2*(y / 2)+1)):rnd m k way=rnd x (D+k) way:=by
 obtain⟨h,rfl⟩:∃ h,k=h+2:=⟨k - 2,ω⟩;have e2:(2:Nat)^(h+2)=2*(2*2^h):=by rw[kN5,kN5];omega
 have eD:(2:Nat)^(D+(h+2))=2^D*2^(h+2):=kN3 ..;have hq:m / 2^(h+2)=x / 2^(D+(h+2)):=by
  rw[eD,←kN0,←hy];rcases Y with ⟨-,Y⟩|⟨-,Y⟩
  ·rw[Y]
  ·have hd:∀ z,z / (2*(2*2^h))=z / 2 / (2*2^h):=fun z=>(kN0 ..).symm;rw[e2,hd,hd,Y,show(2*(y / 2)+1) / 2=y / 2 by omega]
 have hR:x % 2^(D+(h+2))=(y % 2^(h+2))*2^D+x % 2^D:=by
  rw[eD,Nat.mod_mul,hy,kN4];omega
 have hM:(x % 2^D=0∧m % 2^(h+2)=y % 2^(h+2))∨(x % 2^D≠0∧m % 2^(h+2)=2*(y % 2^(h+2) / 2)+1):=by
  rcases Y with ⟨J,Y⟩|⟨J,Y⟩
  ·exact .inl ⟨J,by rw[Y]⟩
  ·refine .inr ⟨J,?_⟩;rw[Y,e2];generalize 2^h=H;rw[Nat.mod_mul,Nat.mod_mul (x:=y),show(2*(y / 2)+1) % 2=1 by omega,show(2*(y / 2)+1) / 2=y / 2 by omega]
   generalize y / 2 % (2*H)=t;omega
 have qQ:x % 2^D<2^D:=kB3 _ (kF3 D);have hp:0<2^D:=kF3 D;have i0:m % 2^(h+2)=0↔x % 2^(D+(h+2))=0:=by
  rw[hR];rcases hM with ⟨J,W⟩|⟨J,W⟩
  ·rw[J,W,kH7];constructor
   ·intro e;rw[e,Nat.zero_mul]
   ·intro e;rcases Nat.mul_eq_zero.1 e with e|e
    ·exact e
    ·omega
  ·rw[W];omega
 have I:∀ c:Nat,c=2*2^h→(2^(h+2)<2*(m % 2^(h+2))↔2^(D+(h+2))<2*(x % 2^(D+(h+2))))∧(2*(m % 2^(h+2))=2^(h+2)↔2*(x % 2^(D+(h+2)))=2^(D+(h+2))):=by
  intro c hc;rw[hR,eD];have e3:(2:Nat)^(h+2)=2*c:=by rw[e2,hc]
  rw[e3] at hM ⊢;have qZ:c % 2=0:=ω;generalize y % (2*c)=u at *;generalize m % (2*c)=rm at *;generalize x % 2^D=rx at *;generalize 2^D=T at *;have a1:T*(2*c)=2*(c*T):=by rw[kN4 T,kN6]
  rw[a1];rcases hM with ⟨J,W⟩|⟨J,W⟩
  ·subst J;rw[W,kH7];constructor
   ·constructor
    ·intro g;have:=kM4 (show c<u by omega) hp;omega
    ·intro g;have:c*T<u*T:=ω;have:=Nat.lt_of_mul_lt_mul_right this;omega
   ·constructor
    ·intro g;rw[show u=c by omega]
    ·intro g;have:=Nat.eq_of_mul_eq_mul_right hp (show u*T=c*T by omega);omega
  ·have V:u<c→u*T+rx<c*T:=by
    intro g;have:=kF5 T (show u+1≤c by omega)
    rw[Nat.add_mul,Nat.one_mul] at this;omega
   have F:c≤u→c*T<u*T+rx:=by
    intro g;have:=kF5 T g
    omega
   by_cases g:u<c
   ·have a2:=V g;have a3:rm<c:=ω;clear V F;refine⟨⟨fun L=>?_,fun L=>?_⟩,⟨fun L=>?_,fun L=>?_⟩⟩
    ·omega
    ·omega
    ·omega
    ·omega
   ·have a2:=F ω;have a3:c<rm:=ω;clear V F;refine⟨⟨fun L=>?_,fun L=>?_⟩,⟨fun L=>?_,fun L=>?_⟩⟩
    ·omega
    ·omega
    ·omega
    ·omega
 have k1:=I _ rfl;unfold rnd;have C:Ie.rup m (h+2) way=Ie.rup x (D+(h+2)) way:=by
  unfold Ie.rup;rw[hq];simp only[k1.1,k1.2,ne_eq,i0]
 rw[C,hq]
theorem zI9 {x n:Nat} (T:x≠0):tz x<n↔x % 2^n≠0:=by
 obtain⟨D,W⟩:=qX0 x x lR T;constructor
 ·intro J H;have F:2^(tz x+1) ∣ x:=Nat.dvd_trans (Nat.pow_dvd_pow 2 ω) (Nat.dvd_of_mod_eq_zero H);obtain⟨c,Y⟩:=F;have L:x / 2^tz x=2*c:=by
   rw[kN5,kN6] at Y;exact Nat.div_eq_of_eq_mul_right (kF3 _) Y
  omega
 ·intro u;apply Decidable.byContradiction
  intro V;apply u
  have:2^n ∣ x:=by rw[←D];exact Nat.dvd_trans (Nat.pow_dvd_pow 2 ω) (Nat.dvd_mul_right _ _)
  exact Nat.mod_eq_zero_of_dvd this
theorem yA8 {x:Nat} {e:Int} {X m j k k1:Nat} {s P:Int} {e':Int} (u:s=e' - (nz m:Int)) (V:P=pl m e') (J:(k1:Int)=P - s) (H:(j:Int)=P+1074) (Y:∀ way,rnd (tp m) k1 way=rnd X k way) (way:Int):raw m e' way=((j*4503599627370496+rnd X k way:Nat):Int):=by
 unfold raw;rw[←V,←u,show(P - s).toNat=k1 by omega,Y]
 omega
theorem yA9 {x:Nat} {e:Int} (h0:x≠0):∃ j X k,IsR x e j X k∧(∀ way,raw (tfM true x) (e+(tfD x:Int)) way=((j*4503599627370496+rnd X k way:Nat):Int))∧(k:Int)≤j+1074+(if e<0 then -e else 0)+64 ∧ -64+min e (-1074)≤(j:Int) - 1074 - k:=by
 by_cases hD:bl x≤64
 ·have V:tfD x=0:=by unfold tfD;omega
  have eM:tfM true x=x:=by unfold tfM;rw[V];simp
  rw[eM,V];have F:=(qJ4 x 64).1 hD;obtain⟨n1,n2,n3⟩:=qC3 x F h0;obtain⟨P,W⟩:=eE (pl x (e+((0:Nat):Int)));have u:=W;unfold pl at u;have J:(P = -1074∧e - nz x+11 < -1074)∨(P=e - nz x+11 ∧ -1074≤P):=by
   split at u
   ·exact .inl ⟨u,ω⟩
   ·exact .inr ⟨ω,ω⟩
  refine⟨(P+1074).toNat,tp x,(P - (e - nz x)).toNat,⟨?_,?_,?_⟩,fun way=>yA8 (x:=x) (e:=e) (m:=x) (s:=e - nz x) (P:=P) (k1:=(P - (e - nz x)).toNat) ω W ω ω (fun _=>rfl) way,?_,?_⟩
  ·intro K qV qJ;unfold tp;rw[kN6,←kN3];congr 2
   omega
  ·have:2^11≤2^(P - (e - nz x)).toNat:=kF4 ω ω
   refine Nat.div_lt_of_lt_mul ?_;have:2^11*9007199254740992≤2^(P - (e - nz x)).toNat*9007199254740992:=kF5 _ this
   omega
  ·rcases J with h|h
   ·exact .inl ω
   ·refine .inr ?_;rw[show(P - (e - nz x)).toNat=11 by omega]
    omega
  ·split <;> omega
  ·omega
 ·have V:bl x=tfD x+64:=by unfold tfD;omega
  obtain⟨D,C⟩:=eE (tfD x);rw[←C] at V ⊢;have L:x<2^(D+64):=by rw[←V];exact qG2 x
  have T:2^(D+63)≤x:=by have:=qD1 h0;rw[V] at this;exact this
  have hp:=kF3 D;obtain⟨y,H⟩:=eE (x / 2^D);have qG:y<18446744073709551616:=by rw[H];refine Nat.div_lt_of_lt_mul ?_;rw[kN3] at L;exact L
  have qU:9223372036854775808≤y:=by rw[H,Nat.le_div_iff_mul_le hp,kN4];rw[kN3] at T;exact T
  have hm:(x % 2^D=0∧tfM true x=y)∨(x % 2^D≠0∧tfM true x=2*(y / 2)+1):=by
   unfold tfM;rw[←C,←H];by_cases I:tz x<D
   ·exact .inr ⟨(zI9 h0).1 I,by rw[kF2 I];exact zJ9 y⟩
   ·refine .inl ⟨?_,by rw[kF1 I];rfl⟩
    apply Decidable.byContradiction
    intro h;exact I ((zI9 h0).2 h)
  obtain⟨m,qZ⟩:=eE (tfM true x);rw[←qZ] at hm ⊢;have qX:m<18446744073709551616:=by rcases hm with h|h <;> omega
  have qY:9223372036854775808≤m:=by rcases hm with h|h <;> omega
  have qK:bl m=64:=xN5 (n:=64) qX (.inr qY);have Y:nz m=0:=by unfold nz;rw[←qI3,qK]
  have qQ:tp m=m:=by unfold tp;rw[Y];simp
  obtain⟨P,W⟩:=eE (pl m (e+(D:Int)));have u:=W;unfold pl at u;rw[Y] at u;have J:(P = -1074∧e+D+11 < -1074)∨(P=e+D+11 ∧ -1074≤P):=by
   split at u
   ·exact .inl ⟨u,ω⟩
   ·exact .inr ⟨ω,ω⟩
  have hq:∀ k1,11≤k1→x / 2^(D+k1)=y / 2^k1:=fun k1 _=>by rw[kN3,←kN0,H]
  refine⟨(P+1074).toNat,x,D+(P - (e+D)).toNat,⟨?_,?_,?_⟩,fun way=>yA8 (x:=x) (e:=e) (m:=m) (s:=e+D) (P:=P) (k1:=(P - (e+D)).toNat) (by rw[Y];omega) W ω ω (fun way=>by rw[qQ];exact zW5 ω H hm) way,?_,?_⟩
  ·intro K qV qJ;congr 2
   omega
  ·rw[hq _ ω];have:2^11≤2^(P - (e+D)).toNat:=kF4 ω ω
   refine Nat.div_lt_of_lt_mul ?_;have:2^11*9007199254740992≤2^(P - (e+D)).toNat*9007199254740992:=kF5 _ this
   omega
  ·rcases J with h|h
   ·exact .inl ω
   ·refine .inr ?_;rw[hq _ ω,show(P - (e+D)).toNat=11 by omega]
    omega
  ·split <;> omega
  ·omega
end Go.Proofs.YtfkaogdmlcdceaaGreatDoor
/- A float is made anew of its odd part and its exponent, whatever the way of rounding. -/
namespace Go.Proofs.YtfkaogdmlcdceaaGreatDoor.Ie
open Go.RowKit Go.Fl64
end Go.Proofs.YtfkaogdmlcdceaaGreatDoor.Ie
namespace Go.Proofs.YtfkaogdmlcdceaaGreatDoor
open Go.RowKit Go.Fl64
attribute [local go_sem] iV Nu
def nM (a:Nat):Nat:=(Ie.sM a).toNat
theorem qW6 (a:Nat) (u:mag a<9218868437227405312):val (mag a)=Ie.mant a*2^(Ie.lp a+1074).toNat ∧ -1074≤Ie.lp a∧Ie.lp a≤972:=by
 unfold val Ie.mant Ie.lp;by_cases h:mag a<4503599627370496
 ·rw[kU6 h,kU6 h];have:(-1075+max 1 ((mag a / 4503599627370496:Nat):Int)+1074).toNat=0:=ω
  rw[this,kN7,kM1];exact⟨rfl,ω,ω⟩
 ·rw[kU5 h,kU5 h];have:(-1075+max 1 ((mag a / 4503599627370496:Nat):Int)+1074).toNat=mag a / 4503599627370496 - 1:=ω
  rw[this];exact⟨rfl,ω,ω⟩
theorem yP9 {a:Nat} (u:mag a=0):nM a=0∧Ie.sE a=0:=by
 constructor
 ·unfold nM Ie.sM;rw[kU5 ω,kU6 u];rfl
 ·unfold Ie.sE;rw[kU5 ω,kU6 u]
theorem yY3 {a:Nat} (D:mag a<9218868437227405312) (V:mag a≠0) :
  nM a % 2=1∧nM a<9007199254740992 ∧ -1074≤Ie.sE a∧Ie.sE a≤1100∧nM a*2^(Ie.sE a+1074).toNat=val (mag a):=by
 obtain⟨F,I,C⟩:=qW6 a D;have hb:=Ie.mant_bound a;have u:=Ie.mant_ne V;have Y:Lib.ctz 64 (Ie.mant a)=tz (Ie.mant a):=zD1 u ω;obtain⟨L,J⟩:=qX0 _ (Ie.mant a) lR u;have H:nM a=Ie.mant a / 2^tz (Ie.mant a):=by
  unfold nM Ie.sM;rw[kU5 ω,kU5 V,Y];have:(Ie.mant a:Int) / 2^tz (Ie.mant a)=((Ie.mant a / 2^tz (Ie.mant a):Nat):Int):=by simp
  rw[this,kN9]
 have e2:Ie.sE a=Ie.lp a+(tz (Ie.mant a):Int):=by
  unfold Ie.sE;rw[kU5 ω,kU5 V,Y]
 rw[F];generalize Ie.mant a=M at *;generalize tz M=t at *;generalize Ie.lp a=p at *;have hq:M / 2^t≤M:=kF9 ..;have ht:t≤53:=by
  apply Nat.le_of_not_lt
  intro h;have T:1≤M / 2^t:=kB0 fun W=>by rw[W] at J;simp at J
  have h4:=kB1 (2^t) T;have h5:2^53≤2^t:=kF4 ω ω;have h6:(2:Nat)^53=9007199254740992:=by decide
  omega
 refine⟨by rw[H];exact J,by rw[H];omega,ω,ω,?_⟩
 rw[H,e2,show(p+(t:Int)+1074).toNat=t+(p+1074).toNat by omega,kN3,←kN6,kN4 (M / 2^t),L]
end Go.Proofs.YtfkaogdmlcdceaaGreatDoor
namespace Go.Proofs.YtfkaogdmlcdceaaGreatDoor
open Go.RowKit Go.Fl64
open Ie
attribute [local go_sem] iV Nu
theorem rnd0 (X k:Nat):rnd X k ((0:Nat):Int)=X / 2^k:=by
 have Y:¬ (((0:Nat):Int)=1):=by decide
 have u:¬ (((0:Nat):Int)=2):=by decide
 simp only[rnd,Ie.rup,kU5 Y,kU5 u,Bool.false_eq_true,if_false]
theorem rnd2 (X k:Nat):rnd X k ((2:Nat):Int)=if X % 2^k=0 then X / 2^k else X / 2^k+1:=by
 have Y:¬ (((2:Nat):Int)=1):=by decide
 have u:((2:Nat):Int)=2:=by decide
 simp only[rnd,Ie.rup,kU5 Y,kU6 u];by_cases h:X % 2^k=0
 ·rw[kU6 h,kF1 (by simpa using h)];rfl
 ·rw[kU5 h,kF2 h];rfl
theorem rnd1 (X k:Nat):rnd X k ((1:Nat):Int)=if 2*(X % 2^k)<2^k then X / 2^k else if 2*(X % 2^k)=2^k then X / 2^k+X / 2^k % 2 else X / 2^k+1:=by
 have V:((1:Nat):Int)=1:=by decide
 simp only[rnd,Ie.rup,kU6 V];by_cases J:2*(X % 2^k)<2^k
 ·rw[kU6 J,kF1 (show ¬ 2^k<2*(X % 2^k) by omega),kF1 (show ¬ 2*(X % 2^k)=2^k by omega)];rfl
 ·rw[kU5 J];by_cases Y:2*(X % 2^k)=2^k
  ·rw[kU6 Y,kF1 (show ¬ 2^k<2*(X % 2^k) by omega),kF2 Y]
   by_cases u:X / 2^k % 2=1
   ·rw[kF2 u,u];rfl
   ·rw[kF1 u,show X / 2^k % 2=0 by omega];rfl
  ·rw[kU5 Y,kF2 (show 2^k<2*(X % 2^k) by omega)];rfl
def rwb (x:Nat) (e:Int) (way:Nat):Nat:=(raw (tfM true x) (e+(tfD x:Int)) (way:Int)).toNat
theorem qF7 {x:Nat} {e:Int} (D:x≠0) {K:Nat} (W:1200≤K) (F:64 - e≤K) {way:Nat}:Rounds (x*2^(e+K).toNat) (2^(K - 1074)) (rwb x e way) way:=by
 obtain⟨j,X,k,H,V,-,T⟩:=yA9 (e:=e) D;have L:=H.lies (K:=K) ω ω ω;refine⟨⟨j*4503599627370496+X / 2^k,⟨L.lo,L.hi⟩,?_,?_,?_⟩⟩
 ·intro h;subst h;unfold rwb;rw[V,kN9,rnd0]
 ·intro h;subst h;unfold rwb;rw[V,kN9,rnd2];by_cases hx:X % 2^k=0
  ·rw[kU6 hx,kU6 (L.ex.1 hx)]
  ·rw[kU5 hx,kU5 (fun h=>hx (L.ex.2 h)),kH4]
 ·intro h;subst h;unfold rwb;rw[V,kN9,rnd1];have u:(j*4503599627370496+X / 2^k) % 2=X / 2^k % 2:=ω;by_cases J:2*(X % 2^k)<2^k
  ·rw[kU6 J,kU6 (L.half_lt.1 J)]
  ·rw[kU5 J,kU5 (fun h=>J (L.half_lt.2 h))];by_cases Y:2*(X % 2^k)=2^k
   ·rw[kU6 Y,kU6 (L.half_eq.1 Y),u,kH4]
   ·rw[kU5 Y,kU5 (fun h=>Y (L.half_eq.2 h)),kH4]
def bdy (x:Nat) (e:Int) (way:Nat):Nat:=if x=0 then 0 else if rwb x e way<9218868437227405312 then rwb x e way else if way=0 then 9218868437227405311 else 9218868437227405312
theorem xW7 {x:Nat} {e:Int} (Y:x≠0) (way:Nat):raw (tfM true x) (e+(tfD x:Int)) (way:Int)=(rwb x e way:Int):=by
 obtain⟨j,X,k,-,u,-,-⟩:=yA9 (e:=e) Y;unfold rwb;rw[u];rfl
theorem kJ {x:Nat} {e:Int} (J:x≠0) (way:Nat):(bod (tfM true x) (e+(tfD x:Int)) (way:Int)).toNat=bdy x e way:=by
 unfold bod bdy;rw[kU5 J,xW7 J];by_cases Y:rwb x e way<9218868437227405312
 ·rw[kU6 ω,kU6 Y];rfl
 ·rw[kU5 ω,kU5 Y];by_cases u:way=0
  ·subst u;rfl
  ·rw[kU5 u];have:((way:Int)==0)=false:=by simp;omega
   rw[this];rfl
end Go.Proofs.YtfkaogdmlcdceaaGreatDoor
namespace Go.Proofs.YtfkaogdmlcdceaaGreatDoor
open Go.RowKit Go.Fl64
attribute [local go_sem] iV Nu
theorem yT9 {a b:Int} {c:Nat} (V:0<c):cmpI (a*(c:Int)) (b*(c:Int))=cmpI a b:=by
 have u:(0:Int)<(c:Int):=ω;unfold cmpI;have J:(a*(c:Int)<b*(c:Int))↔a<b:=⟨fun h=>Int.lt_of_mul_lt_mul_right h (Int.le_of_lt u),fun h=>Int.mul_lt_mul_of_pos_right h u⟩;have Y:(b*(c:Int)<a*(c:Int))↔b<a:=⟨fun h=>Int.lt_of_mul_lt_mul_right h (Int.le_of_lt u),fun h=>Int.mul_lt_mul_of_pos_right h u⟩;simp only[J,Y]
theorem yT8 (a b:Int):cmpI (-a) (-b) = - cmpI a b:=by
 unfold cmpI;by_cases u:a<b
 ·rw[kU5 ω,kU6 ω,kU6 u];rfl
 ·by_cases Y:b<a
  ·rw[kU6 ω,kU5 u,kU6 Y]
  ·rw[kU5 ω,kU5 ω,kU5 u,kU5 Y];rfl
theorem yE6 (s:Bool) (x:Nat):sgI s (dlen x)=if x=0 then 0 else if s then -1 else 1:=by
 unfold sgI;by_cases h:x=0
 ·subst h;simp[qQ5]
 ·rw[kU5 (fun e=>h (qQ8.1 e)),kU5 h]
theorem xV7 {K:Nat} {na nb:Bool} {x y:Nat} {ea eb:Int} (W:0≤ea+K) (L:0≤eb+K):ordN na x ea nb y eb=cmpI (vz K na x ea) (vz K nb y eb):=by
 have H:0≤min ea eb+(K:Int):=ω;have D:vz K na x ea=vz K na (x*2^(ea - min ea eb).toNat) (min ea eb):=by
  rw[qD9 H,show min ea eb+((ea - min ea eb).toNat:Int)=ea by omega]
 have e2:vz K nb y eb=vz K nb (y*2^(eb - min ea eb).toNat) (min ea eb):=by
  rw[qD9 H,show min ea eb+((eb - min ea eb).toNat:Int)=eb by omega]
 have hx:x=0↔x*2^(ea - min ea eb).toNat=0:=by
  constructor
  ·rintro rfl;rw[Nat.zero_mul]
  ·intro h;rcases Nat.mul_eq_zero.1 h with h|h
   ·exact h
   ·have:=kF3 (ea - min ea eb).toNat;omega
 have V:y=0↔y*2^(eb - min ea eb).toNat=0:=by
  constructor
  ·rintro rfl;rw[Nat.zero_mul]
  ·intro h;rcases Nat.mul_eq_zero.1 h with h|h
   ·exact h
   ·have:=kF3 (eb - min ea eb).toNat;omega
 rw[D,e2];unfold ordN vz;rw[yT9 (kF3 _),yE6,yE6];generalize x*2^(ea - min ea eb).toNat=X at *;generalize y*2^(eb - min ea eb).toNat=Y at *;by_cases J:x=0
 ·have F:=hx.1 J;rw[kU6 J,F];by_cases u:y=0
  ·rw[kU6 u,kU6 rfl,V.1 u,qT8,qT8];simp[cmpI]
  ·have T:Y≠0:=fun h=>u (V.2 h);rw[kU5 u,qT8];cases nb
   ·simp[sv,cmpI];omega
   ·simp[sv,cmpI];omega
 ·have F:X≠0:=fun h=>J (hx.2 h);rw[kU5 J];by_cases u:y=0
  ·rw[kU6 u,V.1 u,qT8];cases na
   ·simp[sv,cmpI];omega
   ·simp[sv,cmpI];omega
  ·have T:Y≠0:=fun h=>u (V.2 h);rw[kU5 u];cases na <;> cases nb
   ·simp[sv]
   ·simp[sv,cmpI];omega
   ·simp[sv,cmpI];omega
   ·simp only[if_true,sv];rw[yT8];omega
theorem cmp_gt {a b:Int} (h:b<a):0<cmpI a b:=by
 rcases qY2 a b with ⟨Y,u⟩|⟨Y,u⟩|⟨Y,u⟩ <;> omega
end Go.Proofs.YtfkaogdmlcdceaaGreatDoor
namespace Go.Proofs.YtfkaogdmlcdceaaGreatDoor
open Go.RowKit Go.Fl64
open Ie
attribute [local go_sem] iV Nu
def VA (K x:Nat) (e:Int):Nat:=x*2^(e+(K:Int)).toNat
def UU (K:Nat):Nat:=2^(K - 1074)
theorem xQ8 (K:Nat):0<UU K:=kF3 _
theorem yF4 {K:Nat} (J:70000≤K) {x:Nat} {e:Int} (u:x≠0) (Y : -65536≤e) {way:Nat}:Rounds (VA K x e) (UU K) (rwb x e way) way:=qF7 u ω ω
theorem xN0:bv 0=0:=rfl
theorem xQ6 (x:Nat) (e:Int) (way:Nat):bdy x e way≤9218868437227405312:=by
 unfold bdy;split
 ·omega
 ·split
  ·omega
  ·split <;> omega
def wyN (s:Bool) (m:Int):Nat:=if m=2 then 1 else if(s==(m==1))then 2 else 0
theorem xP2 (s:Bool) (m:Int):((wyN s m:Nat):Int)=wy s m:=by
 unfold wyN wy;split
 ·rfl
 ·split <;> rfl
theorem zZ2 (s:Bool) (m:Int):wyN s m=0∨wyN s m=1∨wyN s m=2:=by
 unfold wyN;split
 ·exact .inr (.inl rfl)
 ·split
  ·exact .inr (.inr rfl)
  ·exact .inl rfl
theorem yN9:tfM true 0=0:=by unfold tfM;rw[show tfD 0=0 from rfl];simp
theorem xD9 {x:Nat} (Y:x≠0):tfM true x≠0:=by
 unfold tfM;split
 ·have u:=qD1 Y;have J:2^tfD x≤x:=kF8 (kF4 ω (by unfold tfD;omega)) u
  have:=(Nat.le_div_iff_mul_le (kF3 (tfD x))).2 (show 1*2^tfD x≤x by omega)
  omega
 ·rw[zJ9];omega
theorem qF5 {s:Bool} {x:Nat} {e m:Int} (Y:1≤m∧m≤3):tfF s true x e m=sig s (bdy x e (wyN s m)):=by
 unfold tfF mk;rw[kU6 ω];congr 1
 by_cases u:x=0
 ·subst u;rw[yN9,kU6 rfl];unfold bdy;rw[kU6 rfl]
 ·rw[kU5 (xD9 u),←xP2,kJ u]
theorem zW6 {x:Nat} {e:Int} {j X k:Nat} (V:IsR x e j X k) {K:Nat} (H:1074≤K) (Y:0≤e+K) (u:0≤(j:Int) - 1074 - k+K) (way:Nat):Rounds (x*2^(e+K).toNat) (2^(K - 1074)) (j*4503599627370496+rnd X k (way:Int)) way:=by
 have L:=V.lies H Y u;refine⟨⟨j*4503599627370496+X / 2^k,⟨L.lo,L.hi⟩,?_,?_,?_⟩⟩
 ·intro h;subst h;rw[rnd0]
 ·intro h;subst h;rw[rnd2];by_cases hx:X % 2^k=0
  ·rw[kU6 hx,kU6 (L.ex.1 hx)]
  ·rw[kU5 hx,kU5 (fun h=>hx (L.ex.2 h)),kH4]
 ·intro h;subst h;rw[rnd1];have J:(j*4503599627370496+X / 2^k) % 2=X / 2^k % 2:=ω;by_cases Y:2*(X % 2^k)<2^k
  ·rw[kU6 Y,kU6 (L.half_lt.1 Y)]
  ·rw[kU5 Y,kU5 (fun h=>Y (L.half_lt.2 h))];by_cases u:2*(X % 2^k)=2^k
   ·rw[kU6 u,kU6 (L.half_eq.1 u),J,kH4]
   ·rw[kU5 u,kU5 (fun h=>u (L.half_eq.2 h)),kH4]
theorem IsR.rwb {x:Nat} {e:Int} {j X k:Nat} (Y:IsR x e j X k) (J:x≠0) {way:Nat} (u:way=0∨way=1∨way=2):rwb x e way=j*4503599627370496+rnd X k (way:Int):=by
 obtain⟨K,V⟩:∃ K:Nat,K=1200+(64 - e).toNat+(1074+k):=⟨_,rfl⟩;have a:=qF7 (e:=e) J (K:=K) ω ω (way:=way);have b:=zW6 Y (K:=K) ω ω ω way;have F:=Rounds.mono u a b lR;have H:=Rounds.mono u b a lR;omega
theorem xY7 {x:Nat} {e:Int} (J:x≠0) (W:1024<(bl x:Int)+e) {way:Nat} (u:way=0∨way=1∨way=2):9218868437227405312≤rwb x e way:=by
 obtain⟨K,I⟩:∃ K:Nat,K=1200+(64 - e).toNat:=⟨_,rfl⟩;have a:=qF7 (e:=e) J (K:=K) ω ω (way:=way);obtain⟨b0,⟨l,g⟩,F,V,H⟩:=a.fl;have D:bv 9218868437227405312*2^(K - 1074)≤x*2^(e+K).toNat:=by
  obtain⟨j,C⟩:∃ j:Nat,j=2046:=⟨_,rfl⟩;have L:bv 9218868437227405312=4503599627370496*2^j:=by
   have:=qD3 (j:=j) (q:=4503599627370496) (.inr ⟨ω,ω⟩)
   rw[show j*4503599627370496+4503599627370496=9218868437227405312 by omega] at this
   exact this
  have e2:(4503599627370496:Nat)=2^52:=by rfl
  rw[L,e2,←kN3,←kN3];have T:=qD1 J;have Y:bl x≠0:=by unfold bl;rw[kU5 J];omega
  refine kF8 (kF4 ω (show 52+j+(K - 1074)≤bl x - 1+(e+K).toNat by omega)) ?_
  rw[kN3];exact kF5 _ T
 have Y:=zQ4 (kH8 (x*2^(e+K).toNat)) D g;rcases u with u|u|u
 ·rw[F u];exact Y
 ·rw[H u];split
  ·exact Y
  ·split <;> omega
 ·rw[V u];split <;> omega
theorem xA5 {x:Nat} {E e':Int} (V:e'≤E) (J : -1074≤e') (u:x*2^(E - e').toNat<9007199254740992) (Y:e' = -1074∨4503599627370496≤x*2^(E - e').toNat):IsR x E (e'+1074).toNat (x*2^(E - e').toNat) 0:=by
 refine⟨fun K a b=>?_,by rw[kN7,Nat.div_one];exact u,?_⟩
 ·rw[kN6,←kN3,show(E - e').toNat+(((e'+1074).toNat:Int) - 1074 - ((0:Nat):Int)+K).toNat=(E+K).toNat by omega]
 ·rw[kN7,Nat.div_one];rcases Y with h|h
  ·exact .inl ω
  ·exact .inr h
theorem zR3 {x:Nat} {E e':Int} (V:E≤e') (J : -1074≤e') (u:x / 2^(e' - E).toNat<9007199254740992) (Y:e' = -1074∨4503599627370496≤x / 2^(e' - E).toNat):IsR x E (e'+1074).toNat x (e' - E).toNat:=by
 refine⟨fun K a b=>?_,u,?_⟩
 ·rw[show(((e'+1074).toNat:Int) - 1074 - ((e' - E).toNat:Int)+K).toNat=(E+K).toNat by omega]
 ·rcases Y with h|h
  ·exact .inl ω
  ·exact .inr h
theorem xL3 (X way:Nat) (u:way=0∨way=1∨way=2):rnd X 0 (way:Int)=X:=by
 rcases u with rfl|rfl|rfl
 ·rw[rnd0,kN7,Nat.div_one]
 ·rw[rnd1,kN7,Nat.div_one,Nat.mod_one,kU6 ω]
 ·rw[rnd2,kN7,Nat.div_one,Nat.mod_one,kU6 rfl]
def tE (x:Nat) (E:Int):Int:=if(bl x:Int)+E - 53 < -1074 then -1074 else(bl x:Int)+E - 53
theorem zK0 {x:Nat} (u:x≠0):1≤bl x:=by unfold bl;rw[kU5 u];omega
theorem yH8 {x:Nat} {E:Int} (u:x≠0) (J:1024<(bl x:Int)+E) {way:Nat} (Y:way=0∨way=1∨way=2):bdy x E way=if way=0 then 9218868437227405311 else 9218868437227405312:=by
 unfold bdy;rw[kU5 u,kU5 (by have:=xY7 (e:=E) u J Y;omega)]
theorem up_lt {x k:Nat} (J:x≠0) (h:bl x+k≤53):x*2^k<9007199254740992:=by
 have Y:=qG2 x;have u:x*2^k<2^bl x*2^k:=kM4 Y (kF3 _);rw[←kN3] at u;exact kF6 u (kF4 ω h:_≤2^53)
theorem up_ge {x k:Nat} (Y:x≠0) (h:bl x+k=53):4503599627370496≤x*2^k:=by
 have J:=qD1 Y;have V:=zK0 Y;have u:2^(bl x - 1)*2^k≤x*2^k:=kF5 _ J;rw[←kN3,show bl x - 1+k=52 by omega] at u
 exact u
theorem dn_lt {x k:Nat} (h:bl x≤k+53):x / 2^k<9007199254740992:=by
 have u:=qG2 x;refine(kM6 (kF3 _)).2 (kF6 u ?_)
 rw[show(9007199254740992:Nat)=2^53 by rfl,←kN3]
 exact kF4 ω ω
theorem dn_ge {x k:Nat} (Y:x≠0) (h:bl x=k+53):4503599627370496≤x / 2^k:=by
 have u:=qD1 Y;refine(Nat.le_div_iff_mul_le (kF3 _)).2 (kF8 (Nat.le_of_eq ?_) u)
 rw[show(4503599627370496:Nat)=2^52 by rfl,←kN3,show 52+k=bl x - 1 by omega]
theorem qE2 {x:Nat} {E:Int} (u:(bl x:Int)+E≤1024) : -1074≤tE x E∧tE x E≤971:=by unfold tE;split <;> omega
theorem xN1 {e':Int} {q n:Nat} (V : -1074≤e') (J:e'≤971) (Y:q<9007199254740992) (u:e' = -1074∨4503599627370496≤q):(e'+1074).toNat*4503599627370496+q<9218868437227405312:=ω
theorem kJ6 {x:Nat} {E:Int} (V:x≠0) (T:(bl x:Int)+E≤1024) (J:tE x E≤E) {way:Nat} (F:way=0∨way=1∨way=2) :
  bdy x E way=(tE x E+1074).toNat*4503599627370496+x*2^(E - tE x E).toNat∧x*2^(E - tE x E).toNat<9007199254740992∧(tE x E = -1074∨4503599627370496≤x*2^(E - tE x E).toNat):=by
 have H:=qE2 T;have u:x*2^(E - tE x E).toNat<9007199254740992:=up_lt V (by unfold tE at J ⊢; split at J <;> omega)
 have Y:tE x E = -1074∨4503599627370496≤x*2^(E - tE x E).toNat:=by
  by_cases h:tE x E = -1074
  ·exact .inl h
  ·exact .inr (up_ge V (by unfold tE at h J ⊢; split at h <;> omega))
 refine⟨?_,u,Y⟩
 have L:=xA5 (x:=x) J H.1 u Y;have D:=L.rwb V F;rw[xL3 _ _ F] at D;unfold bdy;rw[kU5 V,D,kU6 (xN1 H.1 H.2 u Y (n:=0))]
theorem zT8 {x:Nat} {E:Int} (Y:x≠0) (L:(bl x:Int)+E < -1075) {way:Nat} (V:way=0∨way=1∨way=2):bdy x E way=if way=2 then 1 else 0:=by
 have W:=zK0 Y;have hx:=qG2 x;have J:2*x<2^(-1074 - E).toNat:=by
  have:2^(bl x+1)≤2^(-1074 - E).toNat:=kF4 ω ω
  rw[kN5] at this;omega
 have u:x / 2^(-1074 - E).toNat=0:=Nat.div_eq_of_lt ω;have H:x % 2^(-1074 - E).toNat=x:=kB2 ω;have D:=zR3 (x:=x) (E:=E) (e' := -1074) ω ω (by rw[u];omega) (.inl rfl)
 have F:=D.rwb Y V;have T:rwb x E way=if way=2 then 1 else 0:=by
  rw[F];rcases V with rfl|rfl|rfl
  ·rw[rnd0,u,kU5 δ];rfl
  ·rw[rnd1,u,H,kU6 J,kU5 δ];rfl
  ·rw[rnd2,u,H,kU5 Y,kU6 rfl];rfl
 unfold bdy;rw[kU5 Y,T,kU6 (by split <;> omega)]
def dnU (x k way:Nat):Bool:=(way==2)||((way==1)&&((x / 2^(k - 1) % 2==1)&&(!(x % 2^(k - 1)==0)||(x / 2^k % 2==1))))
theorem xL4 {x k way:Nat} (W:1≤k) (hx:x % 2=1) (T:way=0∨way=1∨way=2):rnd x k (way:Int)=if dnU x k way then x / 2^k+1 else x / 2^k:=by
 obtain⟨n,rfl⟩:∃ n,k=n+1:=⟨k - 1,ω⟩;have J:x % 2^(n+1)≠0:=fun h=>by
  have:=Nat.dvd_of_mod_eq_zero h
  have C:2 ∣ x:=Nat.dvd_trans ⟨2^n,by rw[kN5,kN4]⟩ this
  omega
 have Y:=kF3 n;have u:x % 2^(n+1)=x % 2^n+2^n*(x / 2^n % 2):=by rw[kN5,Nat.mod_mul]
 have V:2^(n+1)=2*2^n:=by rw[kN5,kN4]
 have L:x % 2^n<2^n:=kB3 _ Y;have H:x / 2^n % 2=0∨x / 2^n % 2=1:=ω;unfold dnU;rw[kM5];rcases T with rfl|rfl|rfl
 ·rw[rnd0];simp
 ·rw[rnd1];simp only[show((1:Nat)==2)=false by rfl,show((1:Nat)==1)=true by rfl,Bool.false_or,Bool.true_and]
  rw[u,V];rcases H with F|F
  ·rw[F,Nat.mul_zero,kH7,kU6 ω];simp
  ·rw[F,kM1,kU5 ω];by_cases D:x % 2^n=0
   ·rw[D,kU6 ω];rcases Nat.mod_two_eq_zero_or_one (x / (2*2^n))with h|h <;> rw[h] <;> simp
   ·rw[kU5 ω];have:(x % 2^n==0)=false:=by simpa using D
    rw[this];simp
 ·rw[rnd2,kU5 J];simp
theorem kJ7 {x:Nat} {E:Int} (h0:x % 2=1) (C:(bl x:Int)+E≤1024) (D:E<tE x E) {way:Nat} (T:way=0∨way=1∨way=2) {n:Nat}
  (V:n=if dnU x (tE x E - E).toNat way then x / 2^(tE x E - E).toNat+1 else x / 2^(tE x E - E).toNat) :
  n≤9007199254740992∧(tE x E = -1074∨4503599627370496≤n)∧bdy x E way=(tE x E+1074).toNat*4503599627370496+n∧x / 2^(tE x E - E).toNat<9007199254740992:=by
 have u:x≠0:=ω;have I:=qE2 C;have Y:x / 2^(tE x E - E).toNat<9007199254740992:=dn_lt (by unfold tE at D ⊢; split at D <;> omega)
 have J:tE x E = -1074∨4503599627370496≤x / 2^(tE x E - E).toNat:=by
  by_cases h:tE x E = -1074
  ·exact .inl h
  ·exact .inr (dn_ge u (by unfold tE at h D ⊢; split at h <;> omega))
 have hR:=zR3 (x:=x) (E:=E) ω I.1 Y J;have L:=hR.rwb u T;rw[xL4 ω h0 T,←V] at L;have F:n≤9007199254740992:=by rw[V];split <;> omega
 have H:tE x E = -1074∨4503599627370496≤n:=by
  rcases J with h|h
  ·exact .inl h
  ·right;rw[V];split <;> omega
 refine⟨F,H,?_,Y⟩
 unfold bdy;rw[kU5 u,L];by_cases W:(tE x E+1074).toNat*4503599627370496+n<9218868437227405312
 ·rw[kU6 W]
 ·rw[kU5 W];have h2:(tE x E+1074).toNat*4503599627370496+n=9218868437227405312:=ω;have h3:n≠x / 2^(tE x E - E).toNat:=by
   intro h;rw[←h] at Y;omega
  have h4:way≠0:=by
   intro h;subst h;apply h3;rw[V];simp[dnU]
  rw[kU5 h4,h2]
theorem yA4 (s:Bool) (w:World):Ca 209 #[.bool s] w fun r w'=>r=.returned (iV (if s then 1 else 0))∧w'=w:=by
 cases s
 ·go_enter Tryz.func209,Tryz.ntmps209
  go_wp2
  go_ret;exact⟨rfl,rfl⟩
 ·go_enter Tryz.func209,Tryz.ntmps209
  go_wp2
  go_ret;exact⟨rfl,rfl⟩
theorem xQ1 (w:World):Ca 53 #[iV (-1)] w fun r w'=>r=.returned (.float .f64 18442240474082181120)∧w'=w:=by
 have u:=Ie.run_frombits
 go_enter Tryz.func53,Tryz.ntmps53
 go_wp2
 go_ret;exact⟨rfl,rfl⟩
theorem bd_or {E M:Nat} (u:E≤2046) (J:4503599627370496≤M) (Y:M<9007199254740992):bits BinOp.or IntKind.u64 ((E:Int)*4503599627370496) (bits BinOp.and IntKind.u64 (M:Int) 4503599627370495)=((E*4503599627370496+(M - 4503599627370496):Nat):Int):=by
 have e:=Nat.two_pow_add_eq_or_of_lt (i:=52) (b:=M - 4503599627370496) (by rw[show(2^52:Nat)=4503599627370496 from rfl];omega) E
 rw[show(2^52:Nat)=4503599627370496 from rfl] at e;rw[and_mant M ω,show M % 4503599627370496=M - 4503599627370496 by omega,show(E:Int)*4503599627370496=((4503599627370496*E:Nat):Int) by omega,u64_or_nat _ _ ω ω,←e,kN4]
theorem xR8 {b:Nat} (h:b<9223372036854775808):bits BinOp.or IntKind.u64 (b:Int) 9223372036854775808=((b+9223372036854775808:Nat):Int):=by
 have e:=u64_or_nat b 9223372036854775808 ω δ;rw[show((9223372036854775808:Nat):Int)=9223372036854775808 from rfl] at e;rw[e,Nat.or_comm,kH5];congr 1
 have:=Nat.two_pow_add_eq_or_of_lt (i:=63) (b:=b) (by rw[show(2^63:Nat)=9223372036854775808 from rfl];exact h) 1
 rw[←(show 2^63*1=9223372036854775808 from rfl),←this]
theorem yM9 (s:Bool) (M E:Nat) (w:World) (hm:4503599627370496≤M) (H:M<9007199254740992) (hE:1≤E) (F:E≤2046):Ca 210 #[.bool s,.int .u64 (M:Nat),iV ((E:Int) - 1075)] w fun r w'=>r=.returned (.float .f64 (sig s ((E - 1)*4503599627370496+M)))∧w'=w:=by
 have hb:=Ie.run_frombits;have I:(4503599627370496:Int)≤(M:Int):=ω;have D:=bd_or F hm H;have u:E*4503599627370496+(M - 4503599627370496)<9223372036854775808:=ω;have e2:=xR8 u;obtain⟨T,Y⟩:∃ T:Nat,T=E*4503599627370496+(M - 4503599627370496):=⟨_,rfl⟩;rw[←Y] at D e2;obtain⟨L,J⟩:∃ L:Nat,L=(E - 1)*4503599627370496+M:=⟨_,rfl⟩;have W:T=L:=ω;have C:Hid _:=W;rw[←J];clear W J u;clear Y;have V:(E:Int) - 1075+1075=E:=ω;cases s
 ·go_enter Tryz.func210,Tryz.ntmps210
  go_wp2
  go_ret;refine⟨kU7 Ending.returned (kU7 (Value.float .f64) ?_),rfl⟩
  try simp only[V,D]
  try rw[kN9]
  rw[C.out];rfl
 ·go_enter Tryz.func210,Tryz.ntmps210
  go_wp2
  go_ret;refine⟨kU7 Ending.returned (kU7 (Value.float .f64) ?_),rfl⟩
  try simp only[V,D,e2]
  try rw[kN9]
  try rw[C.out]
  try rfl
theorem zX6 (s:Bool) (M:Nat) (e:Int) (w:World) (Y:M<4503599627370496):Ca 210 #[.bool s,.int .u64 (M:Nat),iV e] w fun r w'=>r=.returned (.float .f64 (sig s M))∧w'=w:=by
 have J:=Ie.run_frombits;have u:¬ (4503599627370496:Int)≤(M:Int):=ω;have e2:=xR8 (b:=M) ω;cases s
 ·go_enter Tryz.func210,Tryz.ntmps210
  go_wp2
  go_ret;exact⟨rfl,rfl⟩
 ·go_enter Tryz.func210,Tryz.ntmps210
  go_wp2
  go_ret;refine⟨kU7 Ending.returned (kU7 (Value.float .f64) ?_),rfl⟩
  try simp only[e2]
  try rfl
theorem zJ6 {s:Bool} {M:Nat} {e:Int} {w:World} (J:M<9007199254740992) (H : -1074≤e) (Y:e≤971) (u:e = -1074∨4503599627370496≤M):Ca 210 #[.bool s,.int .u64 (M:Nat),iV e] w fun r w'=>r=.returned (.float .f64 (sig s ((e+1074).toNat*4503599627370496+M)))∧w'=w:=by
 by_cases h:4503599627370496≤M
 ·obtain⟨E,V⟩:∃ E:Nat,e=(E:Int) - 1075:=⟨(e+1075).toNat,ω⟩;subst V;rw[show((E:Int) - 1075+1074).toNat=E - 1 by omega]
  exact yM9 s M E w h J ω ω
 ·obtain rfl:e = -1074:=ω;rw[show((-1074:Int)+1074).toNat*4503599627370496+M=M by omega]
  exact zX6 s M _ w ω
theorem xS7 {d d1:Nat} (u:d<B) (Y:d1<B):bits BinOp.or IntKind.u64 (IntKind.u64.wrap (IntKind.u64.wrap (d1:Int)*4294967296)) (IntKind.u64.wrap (d:Int))=((d+d1*B:Nat):Int):=by
 have e:IntKind.u64.wrap (IntKind.u64.wrap (d1:Int)*4294967296)=((d1*B:Nat):Int):=by
  rw[qX3 Y,kB6];unfold B at *; omega
 rw[qX3 u,e,u64_or_nat _ _ (by unfold B at *; omega) (by unfold B at *; omega),qO7 (p:=32) (by rw[←yB9];exact Nat.mul_mod_left ..) u,kH5]
theorem yA3 {v:Value} {X:Nat} {w:World} (h:Ir w v X) (hX:X<9007199254740992):Ca 211 #[v] w fun r w'=>r=.returned (.int .u64 (X:Nat))∧w'=w:=by
 obtain⟨ao,cap,rfl,hc,b,o,V,u⟩:=h;have T:dlen X≤2:=(qZ3 2 X).2 (by unfold B;omega)
 have Y:X=dg X 0+dg X 1*B:=by
  unfold dg B;omega
 have J:=qX1 X 0;have H:=qX1 X 1;by_cases F:dlen X=0
 ·obtain rfl:=qQ8.1 F;rw[qQ5] at *;clear u V J H Y T F
  go_enter Tryz.func211,Tryz.ntmps211
  go_wp2
  go_ret;exact⟨rfl,rfl⟩
 ·obtain rfl:=V ω;have g0:=u 0 ω;rw[kH7] at g0;by_cases L:dlen X=1
  ·have C:dg X 1=0:=qK7 ω;have W:Hid (dg X 0=X):=(by rw[C] at Y;omega:dg X 0=X)
   rw[L] at *;generalize dg X 0=d at *;have D:Hid _:=J;clear u V J H Y T F L C
   go_enter Tryz.func211,Tryz.ntmps211
   go_wp2
   go_ret;refine⟨kU7 Ending.returned (kU7 (Value.int .u64) ?_),rfl⟩
   have I:=D.out;have e:=u64_or_nat 0 d δ (by unfold B at I;omega)
   show bits BinOp.or IntKind.u64 0 (IntKind.u64.wrap (d:Int))=_
   rw[qX3 I];refine e.trans ?_;rw[Nat.zero_or,W.out]
  ·have e2:dlen X=2:=ω;have g1:=u 1 ω;have W:Hid _:=Y;rw[e2] at *;generalize dg X 0=d at *;generalize dg X 1=d1 at *;have D:Hid _:=And.intro J H;clear u V J H Y T F L e2
   go_enter Tryz.func211,Tryz.ntmps211
   go_wp2
   go_ret;refine⟨kU7 Ending.returned (kU7 (Value.int .u64) ?_),rfl⟩
   rw[W.out];exact xS7 D.out.1 D.out.2
theorem zM9 {g:Nat} {a b:World} (h:Below g a b) (n:Nat):Below g a (b.drewN n):=h.trans ⟨rfl,rfl,rfl,kH8 _,fun _ _=>rfl⟩
theorem xM0 {d X:Nat} (h:d=X % B):(bits BinOp.and IntKind.u32 (d:Int) 1==1)=(X % 2==1):=by
 have u:B=4294967296:=rfl;have Y:=u32_and_nat d 1 (by rw[h,u];omega) δ
 rw[show((1:Nat):Int)=1 from rfl] at Y;rw[Y,Nat.and_one_is_mod,h,show X % B % 2=X % 2 by rw[u];omega]
 rcases Nat.mod_two_eq_zero_or_one X with h|h <;> rw[h] <;> rfl
theorem xM {X:Nat} (h:X<9007199254740992):(bits BinOp.and IntKind.u64 (X:Int) 1==1)=(X % 2==1):=by
 have u:=u64_and_nat X 1 ω δ;rw[show((1:Nat):Int)=1 from rfl] at u;rw[u,Nat.and_one_is_mod];rcases Nat.mod_two_eq_zero_or_one X with h|h <;> rw[h] <;> rfl
theorem q53 {e:Int} (h : -1074≤e):Hid ((e+1+1074).toNat*4503599627370496+4503599627370496=(e+1074).toNat*4503599627370496+(9007199254740991+1)):=by
 have u:(e+1+1074).toNat=(e+1074).toNat+1:=ω;show _=_
 rw[u];omega
theorem xE4 {n:Nat} (h:n≠9007199254740992):((n:Int)==9007199254740992)=false:=by
 have:((n:Nat):Int)≠9007199254740992:=ω
 simpa using this
theorem xS2 (x:Nat) (E:Int):max ((bl x:Int)+E - 53) (-1074)=tE x E:=by unfold tE;split <;> omega
theorem kdn {w:World} {ua:Option Addr} {uc x:Nat} (h:At w ua (dlen x) x) (J:dlen x≤uc) (D:dlen x≤100000) {i:Int} {k:Nat} (hi:i=(k:Int)) (T:k≤10000000) :
  ∀ W,Bw w W→Ca 112 #[.slice ua (dlen x) uc,iV i] W fun r w'=>∃ ao n cap,r=.returned (.tuple #[.slice ao n cap,.bool (decide (x % 2^k=0))])∧Ir w' (.slice ao n cap) (x / 2^k)∧Bw W w':=by
 intro W V;subst hi;refine(xK9 (v:=.slice ua (dlen x) uc) (⟨ua,uc,rfl,J,h.later V⟩:Ir W _ x) k ω ω).mono ?_
 rintro r w' ⟨ao,u,rfl,F,Y,H⟩;exact⟨_,_,_,rfl,⟨ao,u,rfl,Y,F⟩,H⟩
theorem rto {neg:Bool} {ua:Option Addr} {uc x:Nat} {ea m:Int} {w:World} (h:At w ua (dlen x) x) (hc:dlen x≤uc) (qF:x % 2=1) (hl:dlen x≤100000) (zI : -4000000≤ea) (zA:ea≤4000000) (hm:1≤m∧m≤3) :
  Ca 151 #[.agg (Nu neg ua (dlen x) uc ea),iV m] w (Rq w (.float .f64 (sig neg (bdy x ea (wyN neg m))))):=by
 have h0:x≠0:=ω;have zW:((dlen x:Int)==0)=false:=qY8 (n:=0) h0;have zO:bl x≤32*dlen x:=qY3 x;have qX:=zK0 h0;obtain⟨ow,qR⟩:∃ ow:Bool,(m==3 && !neg||m==1&&neg)=ow:=⟨_,rfl⟩;obtain⟨nr,zT⟩:∃ nr:Bool,(m==2)=nr:=⟨_,rfl⟩;obtain⟨wy,qM⟩:∃ y,wyN neg m=y:=⟨_,rfl⟩;have qW:m=1∨m=2∨m=3:=ω;have hY:wy=0∧nr=false∧ow=false∨wy=1∧nr=true∧ow=false∨wy=2∧nr=false∧ow=true:=by
  rcases qW with rfl|rfl|rfl <;> cases neg <;> subst qR zT qM <;> simp[wyN]
 rw[qM];have hw:wy=0∨wy=1∨wy=2:=ω;obtain⟨F,hF⟩:=eE (sig neg (bdy x ea wy));rw[←hF];obtain⟨t,ht⟩:∃ t:Int,t=(bl x:Int)+ea:=⟨_,rfl⟩;have yJ : -4000000≤t:=ω;have yK:t≤7200000:=ω;have kH:∀ W,Bw w W→Ca 44 #[.agg (Nu neg ua (dlen x) uc ea)] W (Rq W (iV t)):=fun W hW=>by rw[ht];exact zW7 (h.later hW) h0 ω ⟨zI,zA⟩
 have HN:Hid _:=aI3 h hc hl;have L:Hid _:=aI4 ht qF hF hw;have HY:Hid _:=hY;have HO:Hid _:=qR;have HM:Hid _:=qW;clear h hc qF hl qM hm qW zO qX hF ht hw hY qR h0;obtain⟨un,qD⟩:∃ n,n=dlen x:=⟨_,rfl⟩;rw[←qD] at zW kH HN ⊢;have HU:Hid _:=qD;clear qD;obtain⟨W,hW⟩:=eE (w.alloc (.cells (Nu neg ua un uc ea) 54));have qI:Bw w W:=by rw[hW];exact bR.alloc lR _
 have hA:Hn W w.heap.size neg ua un uc ea 54:=by rw[hW];exact kB7 _ _
 have zR:W.heap.size=w.heap.size+1:=by rw[hW];simp
 have u:Hid _:=qI;have HK:Hid (∀ w',Bw W w'→C3 w' w.heap.size neg ua un uc ea):=fun w' T=>(qQ1 (qQ0 hA T ω)).1;have k:=kH W qI;obtain⟨a0,a1,a2⟩:=HK.out W bR;clear kH hA zR qI
 go_enter Tryz.func151,Tryz.ntmps151
 go_upto_region 4 with fail;rw[←hW];clear hW
 go_cut [6] from 22 to 36 (fun v wx=>v=.bool ow∧wx=W)
 case first =>
  have hO:=HO.out;rcases HM.out with rfl|rfl|rfl <;> cases neg <;> go_wp2 <;> go_meet <;> exact⟨by rw[←hO];rfl,rfl⟩
 case rest =>
  obtain⟨rfl,rfl⟩:=hcut;clear HO HM
  go_wp2_with fail;refine k.mono ?_;rintro r w1 ⟨rfl,qX⟩;have J:Hid _:=qX;clear k a0 a1 a2;obtain⟨a0,a1,a2⟩:=HK.out w1 qX;clear qX;have zY:∀ W,Ca 209 #[.bool false] W fun r w'=>r=.returned (iV 0)∧w'=W:=fun W=>yA4 false W;have zZ:∀ W,Ca 209 #[.bool true] W fun r w'=>r=.returned (iV 1)∧w'=W:=fun W=>yA4 true W;have zK:=c61;have zX:=xQ1;by_cases yX:1024<t
  ·obtain⟨e1,e2,e3,e4⟩:=L.out;rw[yH8 ω ω e4] at e3;have I:Hid _:=e3;have kB:∀ W,Ca 210 #[.bool neg,.int .u64 9007199254740991,iV 971] W fun r w'=>r=.returned (.float .f64 (sig neg 9218868437227405311))∧w'=W:=fun W=>zJ6 (M:=9007199254740991) (e:=971) ω ω ω (.inr ω);clear e1 e2 e3 e4 L;cases neg <;> rcases HY.out with ⟨rfl,rfl,rfl⟩|⟨rfl,rfl,rfl⟩|⟨rfl,rfl,rfl⟩
   all_goals go_wp2_with (first|(go_at_call 209;(first|(with_reducible refine(zY _).mono ?_)|(with_reducible refine(zZ _).mono ?_));rintro r w2 ⟨rfl,rfl⟩)|(go_at_call 53;(first|(with_reducible refine(zK _).mono ?_)|(with_reducible refine(zX _).mono ?_));rintro r w2 ⟨rfl,rfl⟩)|(go_at_call 210;refine(kB _).mono ?_;rintro r w2 ⟨rfl,rfl⟩))
   all_goals go_ret
   all_goals exact⟨by rw[I.out];rfl,u.out.trans (J.out.mono u.out.size)⟩
  ·obtain⟨e2,he⟩:=eE (tE x ea);have yU:max (t - 53) (-1074)=e2:=by rw[L.out.1,he];exact xS2 x ea
   have qS:(bl x:Int)+ea≤1024:=by have:=L.out.1;omega
   obtain⟨qK,qU⟩:=qE2 qS;rw[←he] at qK qU;have HE:Hid _:=And.intro he qS;clear he qS;by_cases zC:e2≤ea
   ·obtain⟨k,hk⟩:∃ k:Nat,k=(ea - e2).toNat:=⟨_,rfl⟩;obtain⟨T,qZ,hg⟩:=kJ6 (by have:=L.out.2.1;omega) HE.out.2 (by rw[←HE.out.1];exact zC) L.out.2.2.2
    rw[←HE.out.1,←hk] at T qZ hg;obtain⟨X,hX⟩:=eE (x*2^k);rw[←hX] at T qZ hg;have I:Hid (F=sig neg ((e2+1074).toNat*4503599627370496+X)):=by have:=L.out.2.2.1;rw[T] at this;exact this
    have kU:Ca 101 #[.slice ua un uc,iV (ea - e2)] w1 fun r w'=>∃ v,r=.returned v∧Ir w' v X∧Bw w1 w':=by
     rw[show ea - e2=(k:Int) by omega,hX]
     have hu:=HU.out;obtain⟨q1,q2,q3⟩:=HN.out;subst hu;exact rup ⟨ua,uc,rfl,q2,q1.later (u.out.trans (J.out.mono u.out.size))⟩ k ω ω
    have kB:∀ W,Ca 210 #[.bool neg,.int .u64 (X:Nat),iV e2] W fun r w'=>r=.returned (.float .f64 (sig neg ((e2+1074).toNat*4503599627370496+X)))∧w'=W:=fun W=>zJ6 qZ qK qU hg;have HL:Hid _:=qZ;clear T qZ hg hX hk L
    go_wp2_with (first|(go_at_call 101;refine kU.mono ?_;rintro r w2 ⟨v,rfl,hv,qY⟩))
    have H:Hid _:=J.out.trans (qY.mono J.out.size);obtain⟨a0,a1,a2⟩:=HK.out w2 H.out;have kS:∀ d,Ca 211 #[v] (w2.drewN d) fun r w'=>r=.returned (.int .u64 X)∧w'=w2.drewN d:=fun d=>yA3 (hv.later ⟨rfl,rfl,rfl,kH8 _,fun _ _=>rfl⟩) HL.out;clear kU qY hv
    go_quiet (first|(go_at_call 211;refine Calls.quiet_of_same (kS _))|(go_at_call 210;refine Calls.quiet_of_same (kB _)))
    go_wp2
    go_ret;exact⟨by rw[I.out];rfl,u.out.trans ((zM9 H.out _).mono u.out.size)⟩
   ·by_cases yV:t < -1075
    ·obtain⟨e1,yQ,e3,e4⟩:=L.out;rw[zT8 ω ω e4] at e3;have I:Hid _:=e3;have zD:∀ W,Ca 210 #[.bool neg,.int .u64 0,iV (-1074)] W fun r w'=>r=.returned (.float .f64 (sig neg 0))∧w'=W:=fun W=>zX6 neg 0 (-1074) W ω;have zP:∀ W,Ca 210 #[.bool neg,.int .u64 1,iV (-1074)] W fun r w'=>r=.returned (.float .f64 (sig neg 1))∧w'=W:=fun W=>zX6 neg 1 (-1074) W ω;clear e1 yQ e3 e4 L;rcases HY.out with ⟨rfl,rfl,rfl⟩|⟨rfl,rfl,rfl⟩|⟨rfl,rfl,rfl⟩
     all_goals go_wp2_with (first|(go_at_call 210;(first|(with_reducible refine(zD _).mono ?_)|(with_reducible refine(zP _).mono ?_));rintro r w2 ⟨rfl,rfl⟩))
     all_goals go_ret
     all_goals exact⟨by rw[I.out];rfl,u.out.trans (J.out.mono u.out.size)⟩
    ·obtain⟨k,hk⟩:∃ k:Nat,k=(e2 - ea).toNat:=⟨_,rfl⟩;have hi:e2 - ea=(k:Int):=ω;have zH:e2 - ea - 1=((k - 1:Nat):Int):=ω;have zG:k≤10000000:=ω;obtain⟨N,C⟩:∃ n,n=if dnU x (tE x ea - ea).toNat wy then x / 2^(tE x ea - ea).toNat+1 else x / 2^(tE x ea - ea).toNat:=⟨_,rfl⟩;obtain⟨zU,qL,T,hX⟩:=kJ7 L.out.2.1 HE.out.2 (by rw[←HE.out.1];omega) L.out.2.2.2 C
     rw[←HE.out.1,←hk] at C hX;rw[←HE.out.1] at T qL;have I:Hid (F=sig neg ((e2+1074).toNat*4503599627370496+N)):=by have:=L.out.2.2.1;rw[T] at this;exact this
     have hu:=HU.out;obtain⟨q1,q2,q3⟩:=HN.out;subst hu;have zQ:=q3;have qH:Hid _:=kdn q1 q2 q3 hi zG;have qO:Hid (∀ V,Bw w V→Ca 112 #[.slice ua (dlen x) uc,iV (e2 - ea - 1)] V fun r w'=>∃ ao n cap,r=.returned (.tuple #[.slice ao n cap,.bool (decide (x % 2^(k - 1)=0))])∧Ir w' (.slice ao n cap) (x / 2^(k - 1))∧Bw V w'):=kdn q1 q2 q3 zH ω;have qT:=xM hX;have HG:Hid _:=aI3 zU qL C;clear L HN HU q1 q2 q3 hi zH zU qL T C hk zG;unfold dnU at HG;obtain⟨X,qA⟩:=eE (x / 2^k);obtain⟨Y,qV⟩:∃ X,X=x / 2^(k - 1):=⟨_,rfl⟩;obtain⟨hf,qC⟩:∃ b:Bool,b=(Y % 2==1):=⟨_,rfl⟩;obtain⟨od,qQ⟩:∃ b:Bool,b=(X % 2==1):=⟨_,rfl⟩;obtain⟨ex,qE⟩:∃ b:Bool,b=decide (x % 2^(k - 1)=0):=⟨_,rfl⟩;rw[show(x % 2^(k - 1)==0)=decide (x % 2^(k - 1)=0)from rfl,←qE,←qA,←qV,←qC,←qQ] at HG;rw[←qA] at hX qT qH;rw[←qQ] at qT;rw[←qE,←qV] at qO;have qG:Hid (hf=(Y % 2==1)∧dlen Y≤100000):=⟨qC,by rw[qV];exact kF8 (qZ5 (kF9 _ _)) zQ⟩
     clear zQ;generalize dlen x=un at *;generalize decide (x % 2^k=0)=yB at qH;clear qA qV qC qQ qE;have zV:=qH.out w1 (u.out.trans (J.out.mono u.out.size))
     go_wp2_with fail;refine zV.mono ?_;rintro r w2 ⟨yM,n1,c1,rfl,hv,qY⟩;have H:Hid _:=J.out.trans (qY.mono J.out.size);clear a0 a1 a2 zV;obtain⟨a0,a1,a2⟩:=HK.out w2 H.out;have kS:=yA3 hv hX;have zJ:=qO.out w2 (u.out.trans (H.out.mono u.out.size));clear hv qY qH qO J
     go_wp2_with fail;refine kS.mono ?_;rintro r w3 ⟨rfl,rfl⟩;clear kS
     go_wp2_with fail;refine zJ.mono ?_;rintro r w4 ⟨yN,n2,c2,rfl,hv,zB⟩;have qJ:Hid _:=H.out.trans (zB.mono H.out.size);clear a0 a1 a2 zJ zB H;obtain⟨a0,a1,a2⟩:=HK.out w4 qJ.out;have HV:Hid _:=hv;clear hv
     go_upto_region 21 with fail
     go_cut [15] from 106 to 115 (fun v wx=>v=.bool hf∧wx=w4)
     case first =>
      obtain⟨ao,cap,zS,qB,b,o,T,D⟩:=HV.out;injection zS with e1 e2 e3;subst e1 e3;obtain⟨zF,yG⟩:=qG.out;by_cases hz:0<dlen Y
      ·obtain rfl:=T hz;have c0:=D 0 hz;rw[kH7] at c0;have yH:=xM0 (d:=dg Y 0) (X:=Y) (qL4 _);have yZ:(0:Int)<(n2:Int):=ω;have yF:n2≤1000000000:=ω;generalize dg Y 0=dd at *;clear D HV qG T hz e2 qB
       go_wp2
       go_meet
       exact⟨by rw[zF],rfl⟩
      ·have hy:Y=0:=qQ8.1 ω;have yY:¬ (0:Int)<(n2:Int):=ω;have zE:hf=false:=by rw[zF,hy];rfl
       subst zE;clear D HV qG T hz e2 qB
       go_wp2
       go_meet
       exact⟨rfl,rfl⟩
     case rest =>
      obtain⟨rfl,rfl⟩:=hcut;clear HV qG;obtain⟨up,qP⟩:∃ b:Bool,b=(wy==2||wy==1&&(hf&&(!ex||od))):=⟨_,rfl⟩;rw[←qP] at HG;have HU:Hid _:=qP;clear qP
      go_upto_region 22 with fail
      go_cut [131] from 116 to 131 (fun v wx=>v=.bool up∧wx=wc)
      case first =>
       have g3:=HU.out;clear HG;rcases HY.out with ⟨rfl,rfl,rfl⟩|⟨rfl,rfl,rfl⟩|⟨rfl,rfl,rfl⟩
       ·go_wp2
        go_meet
        exact⟨by rw[g3];rfl,rfl⟩
       ·cases hf <;> cases ex <;> cases od <;> go_wp2 <;> go_meet <;> exact⟨by rw[g3];rfl,rfl⟩
       ·go_wp2
        go_meet
        exact⟨by rw[g3];rfl,rfl⟩
      case rest =>
       obtain⟨rfl,rfl⟩:=hcut;clear HU HY qT;obtain⟨g1,g2,g3⟩:=HG.out;clear HG;cases up
       ·have C:N=X:=g3;rw[C] at g2 I;have kB:∀ W,Ca 210 #[.bool neg,.int .u64 (X:Nat),iV e2] W fun r w'=>r=.returned (.float .f64 (sig neg ((e2+1074).toNat*4503599627370496+X)))∧w'=W:=fun W=>zJ6 hX qK qU g2;have zL:=xE4 (n:=X) ω;clear g1 g2 g3 C
        go_wp2_with (first|(go_at_call 210;refine(kB _).mono ?_;rintro r w5 ⟨rfl,rfl⟩))
        go_ret;exact⟨by rw[I.out];rfl,u.out.trans (qJ.out.mono u.out.size)⟩
       ·have C:N=X+1:=g3;rw[C] at g1 g2 I;clear g3;by_cases zM:X+1=9007199254740992
        ·obtain rfl:X=9007199254740991:=ω;by_cases qN:e2=971
         ·subst qN;clear g1 g2 C;cases neg
          all_goals go_wp2_with (first|(go_at_call 209;(first|(with_reducible refine(zY _).mono ?_)|(with_reducible refine(zZ _).mono ?_));rintro r w5 ⟨rfl,rfl⟩)|(go_at_call 53;(first|(with_reducible refine(zK _).mono ?_)|(with_reducible refine(zX _).mono ?_));rintro r w5 ⟨rfl,rfl⟩))
          all_goals go_ret
          all_goals exact⟨by rw[I.out];rfl,u.out.trans (qJ.out.mono u.out.size)⟩
         ·have zN:e2+1≤971:=ω;have kB:∀ W,Ca 210 #[.bool neg,.int .u64 4503599627370496,iV (e2+1)] W fun r w'=>r=.returned (.float .f64 (sig neg ((e2+1+1074).toNat*4503599627370496+4503599627370496)))∧w'=W:=fun W=>zJ6 (M:=4503599627370496) ω ω zN (.inr lR);have HQ:=q53 qK;clear g1 g2 C qN
          go_wp2_with (first|(go_at_call 210;refine(kB _).mono ?_;rintro r w5 ⟨rfl,rfl⟩))
          go_ret;exact⟨by rw[I.out,←HQ.out];rfl,u.out.trans (qJ.out.mono u.out.size)⟩
        ·have kB:∀ W,Ca 210 #[.bool neg,.int .u64 ((X:Int)+1),iV e2] W fun r w'=>r=.returned (.float .f64 (sig neg ((e2+1074).toNat*4503599627370496+(X+1))))∧w'=W:=fun W=>zJ6 (M:=X+1) ω qK qU g2;have zL:((X:Int)+1==9007199254740992)=false:=xE4 (n:=X+1) zM;clear g1 g2 C zM
         go_wp2_with (first|(go_at_call 210;refine(kB _).mono ?_;rintro r w5 ⟨rfl,rfl⟩))
         go_ret;exact⟨by rw[I.out];rfl,u.out.trans (qJ.out.mono u.out.size)⟩
end Go.Proofs.YtfkaogdmlcdceaaGreatDoor
namespace Go.Proofs.YtfkaogdmlcdceaaGreatDoor
attribute [local go_sem] iV Nu
end Go.Proofs.YtfkaogdmlcdceaaGreatDoor
namespace Go.Proofs.YtfkaogdmlcdceaaGreatDoor
open Go.RowKit Go.Fl64
open Ie
attribute [local go_sem] iV Nu
theorem rto_0 (na:Bool) (ua:Option Addr) (uc:Nat) (ea m:Int) (w:World):Ca 151 #[.agg (Nu na ua 0 uc ea),iV m] w (Rq w (.float .f64 0)):=by
 obtain⟨W,u⟩:=eE (w.alloc (.cells (Nu na ua 0 uc ea) 54));have Y:Hid (Bw w W):=(by rw[u];exact bR.alloc lR _:Bw w W)
 go_enter Tryz.func151,Tryz.ntmps151
 go_wp2
 go_ret;exact⟨rfl,u ▸ Y.out⟩
end Go.Proofs.YtfkaogdmlcdceaaGreatDoor
namespace Go.Proofs.YtfkaogdmlcdceaaGreatDoor
open Go.RowKit
attribute [local go_sem] iV Nu
theorem xW6 (s:Bool) (ao:Option Addr) (n cap F:Nat) (e place m:Int) (w:World) (H:∀ W,Bw w W→Ca 151 #[.agg (Nu s ao n cap e),iV m] W (Rq W (.float .f64 F))) :
  Ca 212 #[.agg (Nu s ao n cap e),.bool true,iV place,iV m] w (Rq w (.float .f64 F)):=by
 obtain⟨W,J⟩:=eE (w.alloc (.cells (Nu s ao n cap e) 54));have u:Bw w W:=by rw[J];exact bR.alloc lR _
 have D:Hid _:=u;have k:=H W u;clear H u
 go_enter Tryz.func212,Tryz.ntmps212
 go_wp2_with fail;rw[←J];clear J;refine k.mono ?_;rintro r T ⟨rfl,Y⟩;have V:Hid _:=Y;clear k Y
 go_wp2
 go_ret;exact⟨rfl,D.out.trans (V.out.mono D.out.size)⟩
theorem xW5 (s:Bool) (ao:Option Addr) (n cap F:Nat) (e place m:Int) (s':Bool) (z':Nat) (e':Int) (w:World) (qT : -1000000≤place) (qR:place≤1000000)
  (kP:∀ g W,Bw w W→At W (some ⟨g,0,none⟩) 1 1→Ca 83 #[.agg (Nu s ao n cap e),.agg (Nu false (some ⟨g,0,none⟩) 1 1 (-(place+1)))] W fun r w'=>∃ a,r=.returned a∧NC w' W.heap.size a s' z' e'∧Bw W w')
  (kT:∀ W A,Bw w W→NC W w.heap.size A s' z' e'→Ca 151 #[A,iV m] W (Rq W (.float .f64 F))) :
  Ca 212 #[.agg (Nu s ao n cap e),.bool false,iV place,iV m] w (Rq w (.float .f64 F)):=by
 obtain⟨W,hW⟩:=eE (w.alloc (.cells (Nu s ao n cap e) 54));have qV:Bw w W:=by rw[hW];exact bR.alloc lR _
 have hA:Hn W w.heap.size s ao n cap e 54:=by rw[hW];exact kB7 _ _
 have qX:W.heap.size=w.heap.size+1:=by rw[hW];simp
 have T:Hid _:=aI3 qV qX hA;have qM:Hid _:=kT;have HK:Hid (∀ w',Bw W w'→(C3 w' w.heap.size s ao n cap e)):=fun w' D=>(qQ1 (qQ0 T.out.2.2 D (by have:=T.out.2.1;omega))).1
 have kO:∀ w8,Bw W w8→Ca 113 #[iV (place+1)] w8 fun r w'=>∃ g,r=.returned (.agg (Nu false (some ⟨g,0,none⟩) 1 1 (-(place+1))))∧Hid (At w' (some ⟨g,0,none⟩) 1 1)∧Bw W w'∧(C3 w' w.heap.size s ao n cap e):=fun w8 D=>(rone (place+1) w8 ω ω).mono fun r w' ⟨g,e1,e2,e3,e4⟩=>⟨g,e1,e3,D.trans (e4.mono D.size),HK.out w' (D.trans (e4.mono D.size))⟩;have kL:∀ g w9,Hid (At w9 (some ⟨g,0,none⟩) 1 1)→Bw W w9→Ca 83 #[.agg (Nu s ao n cap e),.agg (Nu false (some ⟨g,0,none⟩) 1 1 (-(place+1)))] w9 fun r w'=>∃ V J H u Y,r=.returned (.agg (Nu V J H u Y))∧Hid (NC w' W.heap.size (.agg (Nu V J H u Y)) s' z' e')∧Bw W w'∧Hid (Hn w' w.heap.size s ao n cap e 54)∧(C3 w' w.heap.size s ao n cap e)∧(w'.frozen? ⟨w.heap.size,0,none⟩=false∧w'.frozen? ⟨w.heap.size,1,none⟩=false∧w'.frozen? ⟨w.heap.size,2,none⟩=false):=by
  intro g w9 hA D;refine(kP g w9 (T.out.1.trans (D.mono T.out.1.size)) hA.out).mono ?_
  rintro r qD ⟨A,rfl,hN,qJ⟩;obtain⟨V,J,H,u,Y,rfl⟩:=hN.shape;have qK:=D.trans (qJ.mono D.size);have L:=qQ0 T.out.2.2 qK (by have:=T.out.2.1;omega)
  obtain⟨f1,f2⟩:=qQ1 L;exact⟨V,J,H,u,Y,rfl,hN.mono D.size,qK,L,f1,f2⟩
 obtain⟨d0,d1,d2⟩:=HK.out W bR;have qU:Bw W W.drew:=bR.drew;have qS:IntKind.i64.wrap (place+1)=place+1:=by rw[kB5];omega
 clear kT hA qX qV
 go_enter Tryz.func212,Tryz.ntmps212
 go_upto_region 2 with fail;rw[←hW];clear hW
 go_cut [15] from 11 to 15 (fun v I=>∃ V J H u Y,v=.agg (Nu V J H u Y)∧Hid (NC I W.heap.size (.agg (Nu V J H u Y)) s' z' e')∧Hid (Hn I w.heap.size V J H u Y 54)∧Hid (Below w.heap.size W I))
 case first =>
  go_region_with (first|(go_at_call 113;refine(kO _ (by first|(with_reducible assumption)|exact qU|exact kH9 _ _)).mono ?_;rintro r w8 ⟨g8,rfl,qN,qL,⟨y1,y2,y3⟩⟩)|(go_at_call 83;refine(kL _ _ qN (by with_reducible assumption)).mono ?_;rintro r w9 ⟨V,J,H,u,Y,rfl,qZ,qH,qQ,⟨x1,x2,x3⟩,x4,x5,x6⟩))
  all_goals go_wp2_with fail
  all_goals go_meet
  all_goals exact⟨V,J,H,u,Y,rfl,qZ.out.store (by have:=T.out.2.1;omega) _ _ _,qZ9 _ _ _ qQ.out,qQ4 (qH.mono T.out.1.size) lR _ _ _⟩
 case rest =>
  obtain⟨V,J,H,u,Y,rfl,qZ,qB,qF⟩:=hcut;obtain⟨I,rfl⟩:∃ I:World,I=wc:=⟨_,rfl⟩;have qY:Hid _:=T.out.1.trans qF.out;clear d0 d1 d2;obtain⟨⟨d0,d1,d2⟩,-⟩:=qQ1 qB.out;have kt:=qM.out I _ qY.out (qZ.out.mono T.out.1.size);clear kO kL qU
  go_wp2_with fail;refine kt.mono ?_;rintro r qP ⟨rfl,C⟩;have qG:Hid _:=qY.out.trans (C.mono qY.out.size);clear kt C
  go_wp2
  go_ret;exact⟨rfl,qG.out⟩
theorem qO4 (na nb:Bool) (ua va:Option Addr) (un uc vn vc F:Nat) (ea eb m H T pl:Int) (sg:Bool) (w:World) (zU:(!(na==nb))=sg) (zH:((un:Int)==0)=false) (zQ : -200000≤H) (qO:H≤200000) (qI : -200000≤T) (qA:T≤200000) (zG:min (max (60 - H+T) (-1100)) 1100=pl) (zY : -1100≤pl) (zZ:pl≤1100) (EX:Int) (qW:(1100<H - T∧EX=1100)∨(H - T < -1200∧EX = -1200)) (qN:∀ W,Bw w W→Ca 44 #[.agg (Nu na ua un uc ea)] W (Rq W (iV H))) (qB:∀ W,Bw w W→Ca 44 #[.agg (Nu nb va vn vc eb)] W (Rq W (iV T)))
  (kT:∀ g W,Bw w W→At W (some ⟨g,0,none⟩) 1 1→Ca 151 #[.agg (Nu sg (some ⟨g,0,none⟩) 1 1 EX),iV m] W (Rq W (.float .f64 F))) :
  Ca 152 #[.agg (Nu na ua un uc ea),.agg (Nu nb va vn vc eb),iV m] w (Rq w (.float .f64 F)):=by
 rcases qW with ⟨ht,rfl⟩|⟨ht,rfl⟩
 all_goals (
  try have zV:¬ 1100<H - T:=ω
  obtain⟨W,hW⟩:=eE ((w.alloc (.cells (Nu na ua un uc ea) 54)).alloc (.cells (Nu nb va vn vc eb) 54));obtain⟨hA,qP,qM,qD⟩:=qU9 _ _ hW;have L:Hid _:=aI4 qD qM hA qP;have qU:Hid (∀ w',Bw W w'→((C3 w' w.heap.size na ua un uc ea)∧(C3 w' (w.heap.size+1) nb va vn vc eb))):=fun w' V=>⟨(qQ1 (qQ0 L.out.2.2.1 V (by have:=L.out.2.1;omega))).1,(qQ1 (qQ0 L.out.2.2.2 V (by have:=L.out.2.1;omega))).1⟩
  have qL:Hid _:=qN;have qT:Hid _:=qB;have Y:Hid (Bw W W):=kH9 _ _;have zJ:IntKind.i64.wrap (60 - H)=60 - H:=by rw[kB5];omega
  have zK:IntKind.i64.wrap (60 - H+T)=60 - H+T:=by rw[kB5];omega
  have zX:IntKind.i64.wrap (H - T)=H - T:=by rw[kB5];omega
  have qC:Hid _:=kT;clear kT;clear hA qP qM qD qN qB
  go_enter Tryz.func152,Tryz.ntmps152;have qH:Hid (∀ w',Bw W w'→((C3 w' w.heap.size na ua un uc ea)∧(C3 w' (w.heap.size+1) nb va vn vc eb))):=fun w' V=>qU.out w' (Y.out.trans (V.mono Y.out.size));obtain⟨⟨a0,a1,a2⟩,b0,b1,b2⟩:=qH.out W bR;have D:Bw W W.drew:=bR.drew;have qZ:∀ J,Bw W J→Ca 44 #[.agg (Nu na ua un uc ea)] J (Rq W (iV H)):=fun J V=>(qL.out J (L.out.1.trans ((Y.out.trans (V.mono Y.out.size)).mono L.out.1.size))).mono fun r w' ⟨e1,o2⟩=>⟨e1,V.trans (o2.mono V.size)⟩;have qQ:∀ J,Bw W J→Ca 44 #[.agg (Nu nb va vn vc eb)] J (Rq W (iV T)):=fun J V=>(qT.out J (L.out.1.trans ((Y.out.trans (V.mono Y.out.size)).mono L.out.1.size))).mono fun r w' ⟨e1,o2⟩=>⟨e1,V.trans (o2.mono V.size)⟩
  go_upto_region 3 with fail;rw[←hW];clear hW
  go_cut [7] from 15 to 22 (fun v wx=>v=iV pl∧Hid (Bw W wx))
  case first =>
   go_region_held3 (fun w'=>((C3 w' w.heap.size na ua un uc ea)∧(C3 w' (w.heap.size+1) nb va vn vc eb))) (first|(with_reducible assumption)|exact⟨⟨a0,a1,a2⟩,b0,b1,b2⟩|(refine qH.out _ ?_;with_reducible assumption)|go_keep)
    (first|(go_at_call 44;first|(with_reducible refine(qZ _ (by first|(with_reducible assumption)|exact D)).mono ?_;rintro r w5 ⟨rfl,C⟩)|(with_reducible refine(qQ _ (by first|(with_reducible assumption)|exact D)).mono ?_;rintro r w6 ⟨rfl,qV⟩)))
   all_goals go_wp2_with fail
   all_goals go_meet
   all_goals first|exact⟨rfl,qV⟩|exact⟨rfl,C⟩
  case rest =>
  obtain⟨rfl,qY⟩:=hcut;obtain⟨I,rfl⟩:∃ I:World,I=wc:=⟨_,rfl⟩;have u:Hid _:=Y.out.trans (qY.out.mono Y.out.size);clear qY a0 a1 a2 b0 b1 b2 qZ qQ D qH;have qG:Hid (∀ w',Bw I w'→((C3 w' w.heap.size na ua un uc ea)∧(C3 w' (w.heap.size+1) nb va vn vc eb))):=fun w' V=>qU.out w' (u.out.trans (V.mono u.out.size));obtain⟨⟨a0,a1,a2⟩,b0,b1,b2⟩:=qG.out I bR;have D:Bw I I.drew:=bR.drew;have qZ:∀ J,Bw I J→Ca 44 #[.agg (Nu na ua un uc ea)] J (Rq I (iV H)):=fun J V=>(qL.out J (L.out.1.trans ((u.out.trans (V.mono u.out.size)).mono L.out.1.size))).mono fun r w' ⟨e1,o2⟩=>⟨e1,V.trans (o2.mono V.size)⟩;have qQ:∀ J,Bw I J→Ca 44 #[.agg (Nu nb va vn vc eb)] J (Rq I (iV T)):=fun J V=>(qT.out J (L.out.1.trans ((u.out.trans (V.mono u.out.size)).mono L.out.1.size))).mono fun r w' ⟨e1,o2⟩=>⟨e1,V.trans (o2.mono V.size)⟩
  go_upto_region 4 with fail
  go_cut [8] from 23 to 27 (fun v wx=>v=iV (H - T)∧Hid (Bw I wx))
  case first =>
   go_region_held3 (fun w'=>((C3 w' w.heap.size na ua un uc ea)∧(C3 w' (w.heap.size+1) nb va vn vc eb))) (first|(with_reducible assumption)|exact⟨⟨a0,a1,a2⟩,b0,b1,b2⟩|(refine qG.out _ ?_;with_reducible assumption)|go_keep)
    (first|(go_at_call 44;first|(with_reducible refine(qZ _ (by first|(with_reducible assumption)|exact D)).mono ?_;rintro r w5 ⟨rfl,C⟩)|(with_reducible refine(qQ _ (by first|(with_reducible assumption)|exact D)).mono ?_;rintro r w6 ⟨rfl,qV⟩)))
   all_goals go_wp2_with fail
   all_goals go_meet
   all_goals first|exact⟨rfl,qV⟩|exact⟨rfl,C⟩
  case rest =>
  obtain⟨rfl,qY⟩:=hcut;obtain⟨w3,rfl⟩:∃ w3:World,w3=wc:=⟨_,rfl⟩;have qJ:Hid _:=u.out.trans (qY.out.mono u.out.size);clear qY a0 a1 a2 b0 b1 b2 qZ qQ D qG;obtain⟨⟨a0,a1,a2⟩,b0,b1,b2⟩:=qU.out w3 qJ.out;obtain⟨J,qX⟩:=eE (w3.alloc (.cells #[.int .u32 1] 96));have qK:Bw w3 J:=by rw[qX];exact bR.alloc lR _
  have qR:Hid _:=L.out.1.trans (qJ.out.mono L.out.1.size);have qF:Hid _:=qR.out.trans (qK.mono qR.out.size);have qS:At J (some ⟨w3.heap.size,0,none⟩) 1 1:=⟨w3.heap.size,0,fun _=>rfl,fun i hi=>by
   obtain rfl:i=0:=ω;rw[qX,qL4,show 1 % B=1 by rfl]
   exact qA8 w3 _⟩
  have kt:=qC.out w3.heap.size J qF.out qS;clear qK qS
  go_wp2_with fail;rw[←qX];clear qX;refine kt.mono ?_;rintro r w5 ⟨rfl,C⟩;have qE:Hid _:=qF.out.trans (C.mono qF.out.size);clear kt C
  go_wp2
  go_ret;exact⟨rfl,qE.out⟩)
theorem zW4 (na nb:Bool) (ua va:Option Addr) (un uc vn vc F:Nat) (ea eb m H D pl:Int) (s:Bool) (z:Nat) (bx:Bool) (w:World) (zP:((un:Int)==0)=false) (zX : -200000≤H) (zY:H≤200000) (zZ : -200000≤D) (zQ:D≤200000) (zM:min (max (60 - H+D) (-1100)) 1100=pl) (zJ : -1100≤pl) (zK:pl≤1100) (zN:H - D≤1100) (zB : -1200≤H - D) (qM:∀ W,Bw w W→Ca 44 #[.agg (Nu na ua un uc ea)] W (Rq W (iV H))) (qN:∀ W,Bw w W→Ca 44 #[.agg (Nu nb va vn vc eb)] W (Rq W (iV D)))
  (kO:∀ W,Bw w W→Ca 146 #[.agg (Nu na ua un uc ea),.agg (Nu nb va vn vc eb),iV (pl+60)] W fun r w'=>∃ A,r=.returned (.tuple #[A,.bool bx])∧NC w' W.heap.size A s z (-(pl+60))∧Bw W w')
  (kB:∀ W A,Bw w W→NC W w.heap.size A s z (-(pl+60))→Ca 212 #[A,.bool bx,iV (pl+60),iV m] W (Rq W (.float .f64 F))) :
  Ca 152 #[.agg (Nu na ua un uc ea),.agg (Nu nb va vn vc eb),iV m] w (Rq w (.float .f64 F)):=by
 have zH:¬ 1100<H - D:=ω;have zF:¬ H - D < -1200:=ω;obtain⟨W,hW⟩:=eE ((w.alloc (.cells (Nu na ua un uc ea) 54)).alloc (.cells (Nu nb va vn vc eb) 54));obtain⟨hA,qS,qP,qR⟩:=qU9 _ _ hW;have L:Hid _:=aI4 qR qP hA qS;have qG:Hid (∀ w',Bw W w'→((C3 w' w.heap.size na ua un uc ea)∧(C3 w' (w.heap.size+1) nb va vn vc eb))):=fun w' V=>⟨(qQ1 (qQ0 L.out.2.2.1 V (by have:=L.out.2.1;omega))).1,(qQ1 (qQ0 L.out.2.2.2 V (by have:=L.out.2.1;omega))).1⟩
 have qC:Hid _:=qM;have qW:Hid _:=qN;have Y:Hid (Bw W W):=kH9 _ _;have zG:IntKind.i64.wrap (60 - H)=60 - H:=by rw[kB5];omega
 have zU:IntKind.i64.wrap (60 - H+D)=60 - H+D:=by rw[kB5];omega
 have zV:IntKind.i64.wrap (H - D)=H - D:=by rw[kB5];omega
 have qI:Hid _:=kO;have qL:Hid _:=kB;clear kO kB;clear hA qS qP qR qM qN
 go_enter Tryz.func152,Tryz.ntmps152;have qF:Hid (∀ w',Bw W w'→((C3 w' w.heap.size na ua un uc ea)∧(C3 w' (w.heap.size+1) nb va vn vc eb))):=fun w' V=>qG.out w' (Y.out.trans (V.mono Y.out.size));obtain⟨⟨a0,a1,a2⟩,b0,b1,b2⟩:=qF.out W bR;have T:Bw W W.drew:=bR.drew;have qZ:∀ J,Bw W J→Ca 44 #[.agg (Nu na ua un uc ea)] J (Rq W (iV H)):=fun J V=>(qC.out J (L.out.1.trans ((Y.out.trans (V.mono Y.out.size)).mono L.out.1.size))).mono fun r w' ⟨e1,o2⟩=>⟨e1,V.trans (o2.mono V.size)⟩;have qQ:∀ J,Bw W J→Ca 44 #[.agg (Nu nb va vn vc eb)] J (Rq W (iV D)):=fun J V=>(qW.out J (L.out.1.trans ((Y.out.trans (V.mono Y.out.size)).mono L.out.1.size))).mono fun r w' ⟨e1,o2⟩=>⟨e1,V.trans (o2.mono V.size)⟩
 go_upto_region 3 with fail;rw[←hW];clear hW
 go_cut [7] from 15 to 22 (fun v wx=>v=iV pl∧Hid (Bw W wx))
 case first =>
  go_region_held3 (fun w'=>((C3 w' w.heap.size na ua un uc ea)∧(C3 w' (w.heap.size+1) nb va vn vc eb))) (first|(with_reducible assumption)|exact⟨⟨a0,a1,a2⟩,b0,b1,b2⟩|(refine qF.out _ ?_;with_reducible assumption)|go_keep)
   (first|(go_at_call 44;first|(with_reducible refine(qZ _ (by first|(with_reducible assumption)|exact T)).mono ?_;rintro r w5 ⟨rfl,qU⟩)|(with_reducible refine(qQ _ (by first|(with_reducible assumption)|exact T)).mono ?_;rintro r w6 ⟨rfl,C⟩)))
  all_goals go_wp2_with fail
  all_goals go_meet
  all_goals first|exact⟨rfl,C⟩|exact⟨rfl,qU⟩
 case rest =>
 obtain⟨rfl,qY⟩:=hcut;obtain⟨I,rfl⟩:∃ I:World,I=wc:=⟨_,rfl⟩;have u:Hid _:=Y.out.trans (qY.out.mono Y.out.size);clear qY a0 a1 a2 b0 b1 b2 qZ qQ T qF;have qH:Hid (∀ w',Bw I w'→((C3 w' w.heap.size na ua un uc ea)∧(C3 w' (w.heap.size+1) nb va vn vc eb))):=fun w' V=>qG.out w' (u.out.trans (V.mono u.out.size));obtain⟨⟨a0,a1,a2⟩,b0,b1,b2⟩:=qH.out I bR;have T:Bw I I.drew:=bR.drew;have qZ:∀ J,Bw I J→Ca 44 #[.agg (Nu na ua un uc ea)] J (Rq I (iV H)):=fun J V=>(qC.out J (L.out.1.trans ((u.out.trans (V.mono u.out.size)).mono L.out.1.size))).mono fun r w' ⟨e1,o2⟩=>⟨e1,V.trans (o2.mono V.size)⟩;have qQ:∀ J,Bw I J→Ca 44 #[.agg (Nu nb va vn vc eb)] J (Rq I (iV D)):=fun J V=>(qW.out J (L.out.1.trans ((u.out.trans (V.mono u.out.size)).mono L.out.1.size))).mono fun r w' ⟨e1,o2⟩=>⟨e1,V.trans (o2.mono V.size)⟩
 go_upto_region 4 with fail
 go_cut [8] from 23 to 27 (fun v wx=>v=iV (H - D)∧Hid (Bw I wx))
 case first =>
  go_region_held3 (fun w'=>((C3 w' w.heap.size na ua un uc ea)∧(C3 w' (w.heap.size+1) nb va vn vc eb))) (first|(with_reducible assumption)|exact⟨⟨a0,a1,a2⟩,b0,b1,b2⟩|(refine qH.out _ ?_;with_reducible assumption)|go_keep)
   (first|(go_at_call 44;first|(with_reducible refine(qZ _ (by first|(with_reducible assumption)|exact T)).mono ?_;rintro r w5 ⟨rfl,qU⟩)|(with_reducible refine(qQ _ (by first|(with_reducible assumption)|exact T)).mono ?_;rintro r w6 ⟨rfl,C⟩)))
  all_goals go_wp2_with fail
  all_goals go_meet
  all_goals first|exact⟨rfl,C⟩|exact⟨rfl,qU⟩
 case rest =>
 obtain⟨rfl,qY⟩:=hcut;obtain⟨w3,rfl⟩:∃ w3:World,w3=wc:=⟨_,rfl⟩;have qJ:Hid _:=u.out.trans (qY.out.mono u.out.size);clear qY a0 a1 a2 b0 b1 b2 qZ qQ T qH;obtain⟨⟨a0,a1,a2⟩,b0,b1,b2⟩:=qG.out w3 qJ.out;have qK:Hid _:=L.out.1.trans (qJ.out.mono L.out.1.size);have ko:=qI.out w3 qK.out
 go_wp2_with fail;refine ko.mono ?_;rintro r J ⟨A,rfl,hN,qD⟩;have qE:Hid _:=qK.out.trans (qD.mono qK.out.size);obtain⟨s3,qA,n3,qT,e3,rfl⟩:=hN.shape;obtain⟨w5,qV⟩:=eE (J.alloc (.cells (Nu s3 qA n3 qT e3) 54));have qX:Bw J w5:=by rw[qV];exact bR.alloc lR _
 have qB:Hid _:=qE.out.trans (qX.mono qE.out.size);have kb:=qL.out w5 _ qB.out ((hN.later qX).mono qK.out.size);clear ko hN qD qX a0 a1 a2 b0 b1 b2
 go_wp2_with fail;rw[←qV];clear qV;refine kb.mono ?_;rintro r w6 ⟨rfl,C⟩;have qO:Hid _:=qB.out.trans (C.mono qB.out.size);clear kb C
 go_wp2
 go_ret;exact⟨rfl,qO.out⟩
end Go.Proofs.YtfkaogdmlcdceaaGreatDoor
namespace Go.Proofs.YtfkaogdmlcdceaaGreatDoor
open Go.RowKit Go.Fl64
open Ie
attribute [local go_sem] iV Nu
theorem xN4 {x n:Nat}:n+1≤bl x↔2^n≤x:=by
 have:=qJ4 x n
 omega
theorem kJ1 {x n:Nat} (h:n<bl x):bl (x / 2^n)=bl x - n:=by
 have u:x≠0:=fun e=>by rw[e] at h;simp[bl] at h
 have J:=qG2 x;have Y:=qD1 u;have a:bl (x / 2^n)≤bl x - n:=(qJ4 _ _).2 ((kM6 (kF3 n)).2 (by rw[←kN3,show bl x - n+n=bl x by omega];exact J))
 have b:bl x - n - 1+1≤bl (x / 2^n):=xN4.2 ((Nat.le_div_iff_mul_le (kF3 n)).2 (by rw[←kN3,show bl x - n - 1+n=bl x - 1 by omega];exact Y))
 omega
theorem zT7 {x:Nat} (h:x≠0):bl (2*x+1)=bl x+1:=by
 have J:=qG2 x;have Y:=qD1 h;have u:=zK0 h;have a:bl (2*x+1)≤bl x+1:=(qJ4 _ _).2 (by rw[kN5];omega)
 have b:bl x+1≤bl (2*x+1):=xN4.2 (by
  have:2^bl x=2*2^(bl x - 1):=by rw[←Nat.pow_succ'];congr 1;omega
  omega)
 omega
theorem zO1 {x t:Nat} (h:1≤t):(2*x+1) / 2^t=x / 2^(t - 1):=by
 obtain⟨n,rfl⟩:∃ n,t=n+1:=⟨t - 1,ω⟩;rw[kM5,Nat.pow_succ',←kN0,show(2*x+1) / 2=x by omega]
theorem qN0 {s:Bool} {x:Nat} {e m:Int} (h:64≤bl x):tfF s false x e m=tfF s true (2*x+1) (e - 1) m:=by
 have u:x≠0:=fun e=>by rw[e] at h;simp[bl] at h
 have V:=zT7 u;have Y:tfD (2*x+1)=tfD x+1:=by unfold tfD;omega
 unfold tfF;have J:tfM true (2*x+1)=tfM false x:=by
  unfold tfM;rw[Y,zO1 ω,kM5,qC9 (show(2*x+1) % 2=1 by omega),kF2 (show 0<tfD x+1 by omega)]
  simp
 rw[J,Y,show e - 1+((tfD x+1:Nat):Int)=e+(tfD x:Int) by omega]
theorem zO8 {s:Bool} {Z n:Nat} {E m:Int} (h:64≤bl (Z / 2^n)) (F:Z % 2^n≠0):tfF s true Z E m=tfF s false (Z / 2^n) (E+n) m:=by
 have W:0<n:=by
  rcases Nat.eq_zero_or_pos n with H|H
  ·rw[H,kN7,Nat.mod_one] at F;omega
  ·exact H
 have u:n<bl Z:=Nat.lt_of_not_le fun J=>by
  have:Z / 2^n=0:=Nat.div_eq_of_lt ((qJ4 _ _).1 J)
  rw[this] at h;simp[bl] at h
 have C:=kJ1 u;have V:Z≠0:=fun e=>by rw[e] at u;simp[bl] at u
 have D:tfD Z=tfD (Z / 2^n)+n:=by unfold tfD;omega
 have Y:tz Z<tfD Z:=by
  refine(zI9 V).2 fun e=>F ?_
  have L:2^n ∣ 2^tfD Z:=Nat.pow_dvd_pow 2 ω;exact Nat.mod_eq_zero_of_dvd (Nat.dvd_trans L (Nat.dvd_of_mod_eq_zero e))
 unfold tfF;have T:tfM true Z=tfM false (Z / 2^n):=by
  unfold tfM;rw[kF2 Y,D,kN0,←kN3,kH5 n];simp
 rw[T,D,show E+((tfD (Z / 2^n)+n:Nat):Int)=E+(n:Int)+(tfD (Z / 2^n):Int) by omega]
theorem xN7 {x n:Nat} {e:Int} {way:Nat} (Y:way=0∨way=1∨way=2):bdy (x*2^n) e way=bdy x (e+n) way:=by
 by_cases u:x=0
 ·subst u;rw[Nat.zero_mul];unfold bdy;rw[kU6 rfl,kU6 rfl]
 have V:x*2^n≠0:=Nat.mul_ne_zero u (by have:=kF3 n;omega)
 obtain⟨K,T⟩:∃ K:Nat,K=1200+(64 - e).toNat+n:=⟨_,rfl⟩;have a:=qF7 (e:=e) V (K:=K) ω ω (way:=way);have b:=qF7 (e:=e+n) u (K:=K) ω ω (way:=way);have J:x*2^n*2^(e+(K:Int)).toNat=x*2^(e+(n:Int)+(K:Int)).toNat:=by
  rw[kN6,←kN3,show n+(e+(K:Int)).toNat=(e+(n:Int)+(K:Int)).toNat by omega]
 have D:=Rounds.mono Y a b (Nat.le_of_eq J);have F:=Rounds.mono Y b a (Nat.le_of_eq J.symm);have H:=Nat.le_antisymm D F;unfold bdy;rw[kU5 u,kU5 V,H]
theorem zD7 {s:Bool} {x n:Nat} {e m:Int} (u:1≤m∧m≤3):tfF s true (x*2^n) e m=tfF s true x (e+n) m:=by
 rw[qF5 u,qF5 u,xN7 (zZ2 s m)]
theorem qE1 {s V F:Bool} {u H D:Nat} {E m:Int} (L:1≤m∧m≤3) (T:H=u / 2^D) (hx:F=(V&&decide (u % 2^D=0))) (h:64≤bl H):tfF s V u E m=tfF s F H (E+D) m:=by
 subst T;cases V
 ·rw[Bool.false_and] at hx;subst hx;have W:bl (u / 2^D)≤bl u:=by
   have:=(qJ4 (u / 2^D) (bl u)).2 (kF7 (kF9 _ _) (qG2 u))
   exact this
  rw[qN0 ω];have J:(2*u+1) / 2^(D+1)=u / 2^D:=by rw[zO1 ω,kM5]
  have:=zO8 (s:=s) (Z:=2*u+1) (n:=D+1) (E:=E - 1) (m:=m) (by rw[J];exact h) (fun Y=>by
   have C:2 ∣ 2^(D+1):=⟨2^D,by rw[kN5,kN4]⟩
   have:=Nat.dvd_trans C (Nat.dvd_of_mod_eq_zero Y)
   omega)
  rw[this,J,show E - 1+((D+1:Nat):Int)=E+D by omega]
 ·rw[Bool.true_and] at hx;subst hx;by_cases Y:u % 2^D=0
  ·rw[kF2 Y];have J:u=u / 2^D*2^D:=by
    have:=Nat.div_add_mod u (2^D)
    rw[Y,kH7,kN4] at this;exact this.symm
   conv=>lhs;rw[J]
   exact zD7 L
  ·rw[kF1 Y];exact zO8 h Y
theorem qA2 {N y D:Nat} (V:y≠0):N / y=N*2^D / y / 2^D∧decide (N % y=0)=(decide (N*2^D % y=0)&&decide (N*2^D / y % 2^D=0)):=by
 have H:=kF3 D;refine⟨by rw[kN0,Nat.mul_div_mul_right _ _ H],?_⟩
 by_cases h:N % y=0
 ·obtain⟨c,u⟩:=Nat.dvd_of_mod_eq_zero h;have J:N*2^D=y*(c*2^D):=by rw[u,kN6]
  rw[kF2 h,J,Nat.mul_mod_right,Nat.mul_div_cancel_left _ (kB0 V),Nat.mul_mod_left];rfl
 ·rw[kF1 h];by_cases F:N*2^D % y=0
  ·by_cases Y:N*2^D / y % 2^D=0
   ·exfalso;obtain⟨c,u⟩:=Nat.dvd_of_mod_eq_zero F;rw[u,Nat.mul_div_cancel_left _ (kB0 V)] at Y;obtain⟨d,T⟩:=Nat.dvd_of_mod_eq_zero Y;have J:N*2^D=y*d*2^D:=by rw[u,T,kN6,kN4 d]
    have e2:=Nat.eq_of_mul_eq_mul_right H J;exact h (by rw[e2,Nat.mul_mod_right])
   ·rw[kF1 Y,Bool.and_false]
  ·rw[kF1 F,Bool.false_and]
theorem yR3 {x y k j:Nat} (Y:y≠0):x*2^(k+j) / (y*2^j)=x*2^k / y∧decide (x*2^(k+j) % (y*2^j)=0)=decide (x*2^k % y=0):=by
 have u:=kF3 j;rw[kN3,←kN6];refine⟨Nat.mul_div_mul_right _ _ u,?_⟩
 rw[Nat.mul_mod_mul_right];refine decide_eq_decide.2 ?_;constructor
 ·intro h;rcases Nat.mul_eq_zero.1 h with h|h
  ·exact h
  ·omega
 ·intro h;rw[h,Nat.zero_mul]
theorem zS5 {s:Bool} {x y k:Nat} {ea eb P m:Int} (L:1≤m∧m≤3) (H:y≠0) (I:64≤bl (x*2^k / y)) (F:64≤bl (ovX x ea eb P / ovY y ea eb P)) :
  tfF s (decide (x*2^k % y=0)) (x*2^k / y) (ea - eb - k) m=tfF s (decide (ovX x ea eb P % ovY y ea eb P=0)) (ovX x ea eb P / ovY y ea eb P) (-P) m:=by
 by_cases hc:(k:Int)≤ea - eb+P
 ·obtain⟨D,C⟩:∃ D:Nat,ea - eb+P=(k:Int)+D:=⟨(ea - eb+P - k).toNat,ω⟩;have V:ovX x ea eb P=x*2^k*2^D:=by unfold ovX;rw[kN6,←kN3,show(ea+P - min (ea+P) eb).toNat=k+D by omega]
  have J:ovY y ea eb P=y:=by unfold ovY;rw[show(eb - min (ea+P) eb).toNat=0 by omega,kN7,kM1]
  rw[V,J];have u:=qA2 (N:=x*2^k) (y:=y) (D:=D) H;have:=qE1 (s:=s) (E := -P) L u.1 u.2 I
  rw[this,show -P+(D:Int)=ea - eb - k by omega]
 ·by_cases hn:0≤ea - eb+P
  ·obtain⟨Y,qQ⟩:∃ Y:Nat,ea - eb+P=(Y:Int):=⟨(ea - eb+P).toNat,ω⟩;obtain⟨D,C⟩:∃ D:Nat,k=Y+D:=⟨k - Y,ω⟩;have V:ovX x ea eb P=x*2^Y:=by unfold ovX;rw[show(ea+P - min (ea+P) eb).toNat=Y by omega]
   have J:ovY y ea eb P=y:=by unfold ovY;rw[show(eb - min (ea+P) eb).toNat=0 by omega,kN7,kM1]
   rw[V,J] at F ⊢;have hN:x*2^k=x*2^Y*2^D:=by rw[C,kN3,kN6]
   rw[hN] at I ⊢;have u:=qA2 (N:=x*2^Y) (y:=y) (D:=D) H;have:=qE1 (s:=s) (E:=ea - eb - k) L u.1 u.2 F
   rw[this,show ea - eb - (k:Int)+(D:Int) = -P by omega]
  ·obtain⟨j,hj⟩:∃ j:Nat,ea - eb+P = -(j:Int):=⟨(-(ea - eb+P)).toNat,ω⟩;have V:ovX x ea eb P=x:=by unfold ovX;rw[show(ea+P - min (ea+P) eb).toNat=0 by omega,kN7,kM1]
   have J:ovY y ea eb P=y*2^j:=by unfold ovY;rw[show(eb - min (ea+P) eb).toNat=j by omega]
   rw[V,J] at F ⊢;have T:y*2^j≠0:=Nat.mul_ne_zero H (by have:=kF3 j;omega)
   have u:=qA2 (N:=x) (y:=y*2^j) (D:=k+j) T;have W:=yR3 (x:=x) (y:=y) (k:=k) (j:=j) H;rw[W.1,W.2] at u;have:=qE1 (s:=s) (E:=ea - eb - k) L u.1 u.2 F
   rw[this,show ea - eb - (k:Int)+((k+j:Nat):Int) = -P by omega]
theorem xD8 {s V:Bool} {x y:Nat} {e f m:Int} (T:1≤m∧m≤3) (hx:64≤bl x∨(V=true∧x≠0)) (D:y≠0) (H:1024<(bl x:Int)+e) (W:1024<(bl y:Int)+f):tfF s V x e m=tfF s true y f m:=by
 have u:∀ z (g:Int),z≠0→1024<(bl z:Int)+g→tfF s true z g m=sig s (if wyN s m=0 then 9218868437227405311 else 9218868437227405312):=fun z g F L=>by rw[qF5 T,yH8 F L (zZ2 s m)]
 rw[u y f D W];cases V
 ·have J:64≤bl x:=hx.resolve_right (fun h=>by cases h.1)
  have Y:x≠0:=fun e=>by rw[e] at J;simp[bl] at J
  rw[qN0 J];exact u _ _ ω (by rw[zT7 Y];omega)
 ·rcases hx with J|⟨-,Y⟩
  ·exact u x e (fun e=>by rw[e] at J;simp[bl] at J) H
  ·exact u x e Y H
theorem zF3 {s V:Bool} {x y:Nat} {e f m:Int} (T:1≤m∧m≤3) (hx:64≤bl x∨(V=true∧x≠0)) (D:y≠0) (H:(bl x:Int)+e < -1075) (W:(bl y:Int)+f < -1075):tfF s V x e m=tfF s true y f m:=by
 have u:∀ z (g:Int),z≠0→(bl z:Int)+g < -1075→tfF s true z g m=sig s (if wyN s m=2 then 1 else 0):=fun z g F L=>by rw[qF5 T,zT8 F L (zZ2 s m)]
 rw[u y f D W];cases V
 ·have J:64≤bl x:=hx.resolve_right (fun h=>by cases h.1)
  have Y:x≠0:=fun e=>by rw[e] at J;simp[bl] at J
  rw[qN0 J];exact u _ _ ω (by rw[zT7 Y];omega)
 ·rcases hx with J|⟨-,Y⟩
  ·exact u x e (fun e=>by rw[e] at J;simp[bl] at J) H
  ·exact u x e Y H
theorem yA2 {W:World} {u:Nat} {A:Value} {s:Bool} {z:Nat} {e m:Int} (h:NC W u A s z e) (H:z≠0) (hl:dlen z≤30000) (T : -2000000≤e) (D:e≤2000000) (V:1≤m∧m≤3) :
  Ca 151 #[A,iV m] W (Rq W (.float .f64 (tfF s true z e m))):=by
 obtain⟨ao,cap,rfl,J,-⟩:=h;have C:cn s z e=(s,z / 2^tz z,e+tz z):=by unfold cn;rw[kU5 H]
 rw[C] at J ⊢;simp only at J ⊢
 have Y:=qX0 z z lR H;have F:tz z<bl z:=by
  have h3:2^tz z≤z:=by
   have h4:0<z / 2^tz z:=kB0 fun e=>by have:=Y.2;rw[e] at this;omega
   exact kF8 (Nat.le_mul_of_pos_right _ h4) (Nat.le_of_eq Y.1)
  exact(Nat.pow_lt_pow_iff_right ω).1 (kF7 h3 (qG2 z))
 have I:=qY3 z;have L:dlen (z / 2^tz z)≤dlen z:=qZ5 (kF9 _ _);have:=rto (neg:=s) (ea:=e+tz z) (m:=m) J.at_ J.le Y.2 ω ω ω V
 rw[←qF5 V] at this;have e1:tfF s true (z / 2^tz z) (e+tz z) m=tfF s true z e m:=by
  rw[←zD7 (x:=z / 2^tz z) (n:=tz z) (e:=e) V,kN4,Y.1]
 rw[e1] at this;exact this
theorem yS5 {s:Bool} {z:Nat} {P:Int} (V:s=true→z≠0):sumN (cn s z (-P)).1 (cn s z (-P)).2.1 (cn s z (-P)).2.2 false 1 (-(P+1))=(if z=0 then false else s,if s then 2*z - 1 else 2*z+1,-(P+1)):=by
 by_cases u:z=0
 ·have H:s=false:=by cases s with
   | false=>rfl
   | true=>exact absurd u (V rfl)
  subst H;subst u;unfold cn;rw[kU6 rfl];unfold sumN;rw[kU6 rfl];simp
 ·have J:=qX0 z z lR u;have D:cn s z (-P)=(s,z / 2^tz z,-P+tz z):=by unfold cn;rw[kU5 u]
  have F:z / 2^tz z≠0:=fun e=>by have:=J.2;rw[e] at this;omega
  have Y:z / 2^tz z*2^(tz z+1)=2*z:=by rw[kN5,←kN6,kN4 (z / 2^tz z),J.1,kN4]
  rw[D];unfold sumN;simp only
  rw[kU5 F,kU5 ω,show min (-P+(tz z:Int)) (-(P+1)) = -(P+1) by omega,show(-P+(tz z:Int) - -(P+1)).toNat=tz z+1 by omega,show(-(P+1) - -(P+1)).toNat=0 by omega,kN7,kM1,Y,kU5 u]
  cases s
  ·rw[kU6 rfl,kU5 δ]
  ·rw[kU5 δ,kU5 ω,kU6 rfl]
theorem yP0 {W:World} {L:Nat} {A:Value} {s:Bool} {q:Nat} {P m:Int} {T:Bool} (h:NC W L A s (if s && !T then q+1 else q) (-P)) (hq:T=true→q≠0) (hl:dlen q≤20000) (qV : -100000≤P) (qJ:P≤100000) (hm:1≤m∧m≤3) :
  Ca 212 #[A,.bool T,iV P,iV m] W (Rq W (.float .f64 (if T then tfF s true q (-P) m else tfF s true (2*q+1) (-(P+1)) m))):=by
 obtain⟨s0,C,n0,V,e0,rfl⟩:=h.shape;cases T
 ·rw[Bool.not_false,Bool.and_true] at h;rw[kU5 δ];have qQ:dlen (if s then q+1 else q)≤20001:=by
   split
   ·exact kF8 (qW4 _) ω
   ·omega
  refine xW5 s0 C n0 V _ e0 P m s (2*q+1) (-(P+1)) W ω ω (fun g W' Y qY=>?_) (fun W' A' Y H=>?_)
  ·obtain⟨ao,cap,e1,hA,-⟩:=h.later Y;rw[e1];obtain⟨z,hz⟩:=eE (if s then q+1 else q);rw[←hz] at hA qQ ⊢;have qZ:cn (cn s z (-P)).1 (cn s z (-P)).2.1 (cn s z (-P)).2.2=(cn s z (-P)):=by
    by_cases u:z=0
    ·unfold cn;rw[kU6 u,kU6 rfl]
    ·have h2:=(qX0 z z lR u).2;have:cn s z (-P)=(s,z / 2^tz z,-P+tz z):=by unfold cn;rw[kU5 u]
     rw[this];exact zG4 h2
   have J : -2000000≤(cn s z (-P)).2.2∧(cn s z (-P)).2.2≤2000000:=by
    by_cases u:z=0
    ·unfold cn;rw[kU6 u];exact⟨δ,δ⟩
    ·have I:=qX0 z z lR u;have qX:tz z<bl z:=by
      have h3:2^tz z≤z:=kF8 (Nat.le_mul_of_pos_right _ (kB0 fun e=>by have:=I.2;rw[e] at this;omega)) (Nat.le_of_eq I.1)
      exact(Nat.pow_lt_pow_iff_right ω).1 (kF7 h3 (qG2 z))
     have qK:=qY3 z;unfold cn;rw[kU5 u];exact⟨by simp only;omega,by simp only;omega⟩
   have D:Arg W' (some ⟨g,0,none⟩) (dlen 1) 1 1:=⟨fun h=>by rw[qV0] at h;omega,by rw[qV0];exact qY,by rw[qV0];exact kH8 _,by rw[qV0];omega⟩
   have:=qO5 (na:=(cn s z (-P)).1) (nb:=false) (ea:=(cn s z (-P)).2.2) (eb := -(P+1)) hA D qZ (zG4 rfl) J.1 J.2 ω ω (kF8 xB7 ω) (by rw[qV0];omega)
   have F:s=true→z≠0:=fun e=>by rw[hz,e,kU6 rfl];omega
   rw[yS5 F,qV0] at this;refine this.mono ?_;rintro r w' ⟨a,rfl,H,hb⟩;refine⟨a,rfl,?_,hb⟩
   have e2:(if s then 2*z - 1 else 2*z+1)=2*q+1:=by
    rw[hz];cases s
    ·rw[kU5 δ,kU5 δ]
    ·rw[kU6 rfl,kU6 rfl];omega
   rw[e2] at H;by_cases u:z=0
   ·rw[kU6 u] at H;have I:s=false:=by cases s with
     | false=>rfl
     | true=>exact absurd u (F rfl)
    rw[I];exact H
   ·rw[kU5 u] at H;exact H
  ·refine yA2 H ω ?_ ω ω hm;have h1:=qJ7 q q;have h2:=qW4 (q+q);rw[show 2*q+1=q+q+1 by omega]
   omega
 ·rw[Bool.not_true,Bool.and_false,kU5 δ] at h;rw[kU6 rfl];exact xW6 s0 C n0 V _ e0 P m W (fun W' Y=>yA2 (h.later Y) (hq rfl) ω ω ω hm)
end Go.Proofs.YtfkaogdmlcdceaaGreatDoor
namespace Go.Proofs.YtfkaogdmlcdceaaGreatDoor
open Go.RowKit Go.Fl64
attribute [local go_sem] iV Nu
end Go.Proofs.YtfkaogdmlcdceaaGreatDoor
