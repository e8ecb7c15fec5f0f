/- Own work: contracts of the program's functions, part 2: W10 W11 W12 D6 W13 W14 W15 W16 W17 W18 W19. -/
import Derived.Test.YtfkaogdmlcdceaaGreatDoorA1
import Derived.Laws.ResultCell
import Derived.Deep.RegionHeld3

set_option maxHeartbeats 16000000
set_option maxRecDepth 200000
set_option linter.unusedVariables false
set_option linter.unusedSimpArgs false
namespace Go.Proofs.YtfkaogdmlcdceaaGreatDoor
open Go.RowKit
attribute [local go_sem] iV Nu
theorem qU3 {u d1:Nat} (Y:u<B) (J:d1<B):bits .or .u64 (IntKind.u64.wrap (IntKind.u64.wrap (d1:Int)*4294967296)) (IntKind.u64.wrap (u:Int))=((u+d1*B:Nat):Int):=by
 have e:IntKind.u64.wrap (IntKind.u64.wrap (d1:Int)*4294967296)=((d1*B:Nat):Int):=by
  rw[qX3 J,kB6];unfold B at *; omega
 rw[qX3 Y,e,u64_or_nat _ _ (by unfold B at *; omega) (by unfold B at *; omega),qO7 (p:=32) (by rw[←yB9];exact Nat.mul_mod_left ..) Y,kH5]
theorem zZ3 {H d:Nat} (h:H<18446744073709551616):IntKind.u64.wrap ((H:Int) / (d:Int))=((H / d:Nat):Int):=by
 have u:=kF9 H d;rw[←Int.natCast_ediv];generalize H / d=T at *;rw[kB6];omega
theorem xU9 {T:Nat} (h:4294967295<(T:Int)):(4294967295:Int)=((min T 4294967295:Nat):Int):=ω
theorem yD4 {T:Nat} (h:(T:Int)≤4294967295):(T:Int)=((min T 4294967295:Nat):Int):=ω
theorem kY1 (g off cap I D cb Y J u:Nat) (w:World) (C:J<B) (W:Y<B) (L:u<B) (F:u≠0)
  (g1:w.cell? ⟨g,off+1,none⟩=some (.int .u32 (Y:Nat))) (g0:w.cell? ⟨g,off,none⟩=some (.int .u32 (J:Nat))) (gd:w.cell? ⟨I,D,none⟩=some (.int .u32 (u:Nat))) :
  Ca 254 #[.slice (some ⟨g,off,none⟩) 2 cap,.slice (some ⟨I,D,none⟩) 1 cb] w fun e w'=>e=.returned (.int .u32 (min ((J+Y*B) / u) 4294967295:Nat))∧∃ n,w'=w.drewN n:=by
 have e1:=qU3 C W;have e2:=qX3 L;have qQ:((u:Int)==0)=false:=by simp;exact F
 have V:J+Y*B<18446744073709551616:=by unfold B at *; omega
 generalize hH:J+Y*B=H at *;have e3:IntKind.u64.wrap ((H:Int) / (u:Int))=((H / u:Nat):Int):=zZ3 V;generalize H / u=T at *;clear hH C W V L
 go_enter Tryz.func254,Tryz.ntmps254
 go_wp2
 go_quiet (fail)
 go_wp2
 ·go_ret;exact⟨kU7 Ending.returned (kU7 (Value.int IntKind.u32) (xU9 (by assumption))),nq,rfl⟩
 ·go_ret;exact⟨kU7 Ending.returned (kU7 (Value.int IntKind.u32) (yD4 (by assumption))),nq,rfl⟩
def Gu (H d1 d0 r0 q t l:Nat):Prop:=t*d1+l=H∧q≤t∧t<B∧q*(d1*B+d0)≤H*B+r0
theorem yJ1 {H d1 u Y q t l:Nat} (h:Gu H d1 u Y q t l) (D:Y+l*B<t*u):Gu H d1 u Y q (t - 1) (l+d1)∧0<t:=by
 obtain⟨T,C,W,V⟩:=h;have F:0<t:=kB0 fun e=>by subst e;simp at D
 have J:q*(d1*B+u)<t*(d1*B+u):=by
  have:t*(d1*B+u)=t*d1*B+t*u:=by grind
  rw[←T] at V;have e:(t*d1+l)*B=t*d1*B+l*B:=by grind
  omega
 have L:=Nat.lt_of_mul_lt_mul_right J;refine⟨⟨?_,ω,ω,V⟩,F⟩
 have:t*d1=(t - 1)*d1+d1:=by
  have:=Nat.add_mul (t - 1) 1 d1
  rw[show t - 1+1=t by omega,Nat.one_mul] at this
  exact this
 omega
theorem zR9 {H d1 u Y q t l:Nat} (h:Gu H d1 u Y q t l) (D:t*u≤Y+l*B):q≤t∧t<B∧t*(d1*B+u)≤H*B+Y:=by
 obtain⟨F,V,J,T⟩:=h;refine⟨V,J,?_⟩
 have:t*(d1*B+u)=t*d1*B+t*u:=by grind
 rw[←F];have e:(t*d1+l)*B=t*d1*B+l*B:=by grind
 omega
theorem kY0 (g off cap bb ob cb k F D Y d1 u q T:Nat) (w:World) (hk:k≤35184372088832) (h2:F<B) (h1:D<B) (h0:Y<B) (W:d1<B) (qK:d1≠0) (qJ:u<B)
  (hT:(D+F*B) / d1=T) (qP:T≤4294967295) (hG:Gu (D+F*B) d1 u Y q T (D+F*B - T*d1))
  (g2:w.cell? ⟨g,off+(k+2),none⟩=some (.int .u32 (F:Nat))) (g1:w.cell? ⟨g,off+(k+1),none⟩=some (.int .u32 (D:Nat))) (g0:w.cell? ⟨g,off+k,none⟩=some (.int .u32 (Y:Nat)))
  (f1:w.cell? ⟨bb,ob+(k+1),none⟩=some (.int .u32 (d1:Nat))) (f0:w.cell? ⟨bb,ob+k,none⟩=some (.int .u32 (u:Nat))) :
  Ca 254 #[.slice (some ⟨g,off,none⟩) (k+3:Nat) cap,.slice (some ⟨bb,ob,none⟩) (k+2:Nat) cb] w fun e w'=>(∃ t:Nat,e=.returned (.int .u32 t)∧q≤t∧t<B∧t*(d1*B+u)≤(D+F*B)*B+Y)∧∃ n,w'=w.drewN n:=by
 have e1:=qU3 h1 h2;have e2:=qX3 W;have qM:((d1:Int)==0)=false:=by simp;exact qK
 have I:D+F*B<18446744073709551616:=by unfold B at *; omega
 generalize hH:D+F*B=H at *;have e3:IntKind.u64.wrap ((H:Int) / (d1:Int))=((H / d1:Nat):Int):=zZ3 I;rw[hT] at e3;have hm:T*d1≤H:=by have:=hG.1;omega
 have e4:IntKind.u64.wrap ((T:Int)*(d1:Int))=((T*d1:Nat):Int):=by
  rw[kB6];generalize J:T*d1=m at *;have:(T:Int)*(d1:Int)=(m:Int):=by rw[←J];exact(kN8 _ _).symm
  rw[this];omega
 have e5:IntKind.u64.wrap ((H:Int) - ((T*d1:Nat):Int))=((H - T*d1:Nat):Int):=by
  rw[kB6];omega
 have HB:Hid (Y<B∧u<B∧d1<B∧H<18446744073709551616):=⟨h0,qJ,W,I⟩;have HG:Hid (Gu H d1 u Y q T (H - T*d1)):=hG;have qF:(T:Int)≤4294967295:=ω;have qN:((k:Int)+2==1)=false:=by simp;omega
 generalize T*d1=M at *;generalize hL:H - M=L at *;clear hH h0 h1 h2 I W qJ hT hG hm hL
 go_enter Tryz.func254,Tryz.ntmps254
 go_wp2
 go_quiet (fail)
 go_wp2;clear e1 e2 e3 e4 e5
 go_loopw [8,9] (fun a b wr=>∃ t l n:Nat,a=.int .u64 t∧b=.int .u64 l∧wr=w.drewN n∧Hid (Gu H d1 u Y q t l)) (fun a _ _=>(intOf a).toNat)
 case atStart=>exact⟨_,L,nq,rfl,rfl,rfl,HG⟩
 case round =>
  obtain⟨t,l,n,rfl,rfl,rfl,J⟩:=hrel;obtain⟨b1,b2,b3,b4⟩:=HB.out;have hl:l≤H:=by have:=J.out.1;omega
  have HW:Hid (∃ d',w.drewN n=w.drewN d'):=⟨n,rfl⟩;have x0:(w.drewN n).cell? ⟨g,off+k,none⟩=some (.int .u32 (Y:Nat)):=g0;have y0:(w.drewN n).cell? ⟨bb,ob+k,none⟩=some (.int .u32 (u:Nat)):=f0;generalize w.drewN n=wd at *;have i1:(l:Int)<4294967296→bits .or .u64 (IntKind.u64.wrap ((l:Int)*4294967296)) (IntKind.u64.wrap (Y:Int))=((Y+l*B:Nat):Int):=fun h=>by
   have:=qU3 (d1:=l) b1 (by unfold B;omega)
   rw[qX3 (by unfold B;omega)] at this
   exact this
  have i2:IntKind.u64.wrap ((t:Int)*IntKind.u64.wrap (u:Int))=((t*u:Nat):Int):=by
   have:=qM7 (c:=0) (f:=0) (d:=u) (e:=t) (by unfold B;omega) (by unfold B;omega) b2 J.out.2.2.1
   rw[qX3 b2,←kN8,kB6];generalize t*u=m at *;omega
  by_cases V:(l:Int)<4294967296
  ·have i1:=i1 V;have i3:bits .or .u64 ((l:Int)*4294967296) (IntKind.u64.wrap (Y:Int))=((Y+l*B:Nat):Int):=by
    rw[←i1,show IntKind.u64.wrap ((l:Int)*4294967296)=(l:Int)*4294967296 by rw[kB6];omega]
   have HC:Hid (Y+l*B<t*u∨¬ Y+l*B<t*u):=Nat.lt_or_ge _ _ |>.imp id Nat.not_lt.2;have qY:=fun h=>yJ1 J.out h;have qX:=fun h=>zR9 J.out h;generalize Y+l*B=P2 at *;generalize t*u=P1 at *;have qU:Hid (P2<P1→Gu H d1 u Y q (t - 1) (l+d1)∧0<t):=qY;have qG:Hid (P1≤P2→q≤t∧t<B∧t*(d1*B+u)≤H*B+Y):=qX;have s1:IntKind.u64.wrap ((l:Int)+(d1:Int))=((l+d1:Nat):Int):=by rw[kB6];unfold B at *; omega
   have s2:t<B:=J.out.2.2.1;have HS:Hid (t<B):=s2;have qV:Hid (IntKind.u64.wrap ((l:Int)+(d1:Int))=((l+d1:Nat):Int)):=s1;clear qY qX g0 g1 g2 f0 f1 HG s1 s2 b1 b2 b3 b4 hl J;by_cases hc:P2<P1
   ·have C:(P2:Int)<(P1:Int):=ω
    go_wp2
    go_quiet (fail)
    have qQ:Hid (P2<P1):=hc;clear V i1 i2 i3 C hc
    go_wp2;obtain⟨d',e⟩:=HW.out;obtain⟨J,qB⟩:=qU.out qQ.out;have qZ:=HS.out;rw[qV.out];refine⟨⟨t - 1,l+d1,_,?_,rfl,by rw[e];exact World.drewN_drewN ..,J⟩,?_⟩
    ·congr 1
     unfold B at qZ;first|omega|(rw[kB6];omega)
    ·unfold B at qZ;simp only[intOf];first|omega|(rw[kB6];omega)
   ·have C:¬ (P2:Int)<(P1:Int):=ω
    go_wp2
    go_quiet (fail)
    have qQ:Hid (¬ P2<P1):=hc;clear V i1 i2 i3 C hc
    go_wp2
    go_ret;obtain⟨d',e⟩:=HW.out;have HE:=qG.out (by have:=qQ.out;omega)
    have ht:=HE.2.1;refine⟨⟨t,kU7 Ending.returned (kU7 (Value.int IntKind.u32) ?_),HE⟩,_,by rw[e];exact World.drewN_drewN ..⟩
    unfold B at ht;omega
  ·have qH:decide ((l:Int)<4294967296)=false:=by simpa using V
   have HE:Hid (q≤t∧t<B∧t*(d1*B+u)≤H*B+Y):=zR9 J.out (by
    have h5:t*u≤B*B:=Nat.mul_le_mul (kM8 J.out.2.2.1) (kM8 b2);have h6:B*B≤l*B:=kF5 _ (by unfold B;omega)
    omega)
   clear i1 b1 b2 b3 b4 hl J
   go_wp2
   go_quiet (fail)
   go_wp2
   go_ret;obtain⟨d',e⟩:=HW.out;have ht:=HE.out.2.1;refine⟨⟨t,kU7 Ending.returned (kU7 (Value.int IntKind.u32) ?_),HE.out⟩,_,by rw[e];exact World.drewN_drewN ..⟩
   unfold B at ht;omega
theorem kY (g off cap bb ob cb k F D Y d1 u q T:Nat) (w:World) (hk:k≤35184372088832) (h2:F<B) (h1:D<B) (h0:Y<B) (W:d1<B) (qK:d1≠0) (qJ:u<B)
  (hT:(D+F*B) / d1=T) (qP:4294967295<T) (hG:Gu (D+F*B) d1 u Y q 4294967295 (D+F*B - 4294967295*d1))
  (g2:w.cell? ⟨g,off+(k+2),none⟩=some (.int .u32 (F:Nat))) (g1:w.cell? ⟨g,off+(k+1),none⟩=some (.int .u32 (D:Nat))) (g0:w.cell? ⟨g,off+k,none⟩=some (.int .u32 (Y:Nat)))
  (f1:w.cell? ⟨bb,ob+(k+1),none⟩=some (.int .u32 (d1:Nat))) (f0:w.cell? ⟨bb,ob+k,none⟩=some (.int .u32 (u:Nat))) :
  Ca 254 #[.slice (some ⟨g,off,none⟩) (k+3:Nat) cap,.slice (some ⟨bb,ob,none⟩) (k+2:Nat) cb] w fun e w'=>(∃ t:Nat,e=.returned (.int .u32 t)∧q≤t∧t<B∧t*(d1*B+u)≤(D+F*B)*B+Y)∧∃ n,w'=w.drewN n:=by
 have e1:=qU3 h1 h2;have e2:=qX3 W;have qM:((d1:Int)==0)=false:=by simp;exact qK
 have I:D+F*B<18446744073709551616:=by unfold B at *; omega
 generalize hH:D+F*B=H at *;have e3:IntKind.u64.wrap ((H:Int) / (d1:Int))=((H / d1:Nat):Int):=zZ3 I;rw[hT] at e3;have hm:4294967295*d1≤H:=by have:=hG.1;omega
 have e4:IntKind.u64.wrap ((4294967295:Int)*(d1:Int))=((4294967295*d1:Nat):Int):=by
  rw[kB6];generalize J:4294967295*d1=m at *;have:(4294967295:Int)*(d1:Int)=(m:Int):=by rw[←J];exact(kN8 _ _).symm
  rw[this];omega
 have e5:IntKind.u64.wrap ((H:Int) - ((4294967295*d1:Nat):Int))=((H - 4294967295*d1:Nat):Int):=by
  rw[kB6];omega
 have HB:Hid (Y<B∧u<B∧d1<B∧H<18446744073709551616):=⟨h0,qJ,W,I⟩;have HG:Hid (Gu H d1 u Y q 4294967295 (H - 4294967295*d1)):=hG;have qF:(4294967295:Int)<(T:Int):=ω;have qN:((k:Int)+2==1)=false:=by simp;omega
 generalize 4294967295*d1=M at *;generalize hL:H - M=L at *;clear hH h0 h1 h2 I W qJ hT hG hm hL
 go_enter Tryz.func254,Tryz.ntmps254
 go_wp2
 go_quiet (fail)
 go_wp2;clear e1 e2 e3 e4 e5
 go_loopw [8,9] (fun a b wr=>∃ t l n:Nat,a=.int .u64 t∧b=.int .u64 l∧wr=w.drewN n∧Hid (Gu H d1 u Y q t l)) (fun a _ _=>(intOf a).toNat)
 case atStart=>exact⟨_,L,nq,rfl,rfl,rfl,HG⟩
 case round =>
  obtain⟨t,l,n,rfl,rfl,rfl,J⟩:=hrel;obtain⟨b1,b2,b3,b4⟩:=HB.out;have hl:l≤H:=by have:=J.out.1;omega
  have HW:Hid (∃ d',w.drewN n=w.drewN d'):=⟨n,rfl⟩;have x0:(w.drewN n).cell? ⟨g,off+k,none⟩=some (.int .u32 (Y:Nat)):=g0;have y0:(w.drewN n).cell? ⟨bb,ob+k,none⟩=some (.int .u32 (u:Nat)):=f0;generalize w.drewN n=wd at *;have i1:(l:Int)<4294967296→bits .or .u64 (IntKind.u64.wrap ((l:Int)*4294967296)) (IntKind.u64.wrap (Y:Int))=((Y+l*B:Nat):Int):=fun h=>by
   have:=qU3 (d1:=l) b1 (by unfold B;omega)
   rw[qX3 (by unfold B;omega)] at this
   exact this
  have i2:IntKind.u64.wrap ((t:Int)*IntKind.u64.wrap (u:Int))=((t*u:Nat):Int):=by
   have:=qM7 (c:=0) (f:=0) (d:=u) (e:=t) (by unfold B;omega) (by unfold B;omega) b2 J.out.2.2.1
   rw[qX3 b2,←kN8,kB6];generalize t*u=m at *;omega
  by_cases V:(l:Int)<4294967296
  ·have i1:=i1 V;have i3:bits .or .u64 ((l:Int)*4294967296) (IntKind.u64.wrap (Y:Int))=((Y+l*B:Nat):Int):=by
    rw[←i1,show IntKind.u64.wrap ((l:Int)*4294967296)=(l:Int)*4294967296 by rw[kB6];omega]
   have HC:Hid (Y+l*B<t*u∨¬ Y+l*B<t*u):=Nat.lt_or_ge _ _ |>.imp id Nat.not_lt.2;have qY:=fun h=>yJ1 J.out h;have qX:=fun h=>zR9 J.out h;generalize Y+l*B=P2 at *;generalize t*u=P1 at *;have qU:Hid (P2<P1→Gu H d1 u Y q (t - 1) (l+d1)∧0<t):=qY;have qG:Hid (P1≤P2→q≤t∧t<B∧t*(d1*B+u)≤H*B+Y):=qX;have s1:IntKind.u64.wrap ((l:Int)+(d1:Int))=((l+d1:Nat):Int):=by rw[kB6];unfold B at *; omega
   have s2:t<B:=J.out.2.2.1;have HS:Hid (t<B):=s2;have qV:Hid (IntKind.u64.wrap ((l:Int)+(d1:Int))=((l+d1:Nat):Int)):=s1;clear qY qX g0 g1 g2 f0 f1 HG s1 s2 b1 b2 b3 b4 hl J;by_cases hc:P2<P1
   ·have C:(P2:Int)<(P1:Int):=ω
    go_wp2
    go_quiet (fail)
    have qQ:Hid (P2<P1):=hc;clear V i1 i2 i3 C hc
    go_wp2;obtain⟨d',e⟩:=HW.out;obtain⟨J,qB⟩:=qU.out qQ.out;have qZ:=HS.out;rw[qV.out];refine⟨⟨t - 1,l+d1,_,?_,rfl,by rw[e];exact World.drewN_drewN ..,J⟩,?_⟩
    ·congr 1
     unfold B at qZ;first|omega|(rw[kB6];omega)
    ·unfold B at qZ;simp only[intOf];first|omega|(rw[kB6];omega)
   ·have C:¬ (P2:Int)<(P1:Int):=ω
    go_wp2
    go_quiet (fail)
    have qQ:Hid (¬ P2<P1):=hc;clear V i1 i2 i3 C hc
    go_wp2
    go_ret;obtain⟨d',e⟩:=HW.out;have HE:=qG.out (by have:=qQ.out;omega)
    have ht:=HE.2.1;refine⟨⟨t,kU7 Ending.returned (kU7 (Value.int IntKind.u32) ?_),HE⟩,_,by rw[e];exact World.drewN_drewN ..⟩
    unfold B at ht;omega
  ·have qH:decide ((l:Int)<4294967296)=false:=by simpa using V
   have HE:Hid (q≤t∧t<B∧t*(d1*B+u)≤H*B+Y):=zR9 J.out (by
    have h5:t*u≤B*B:=Nat.mul_le_mul (kM8 J.out.2.2.1) (kM8 b2);have h6:B*B≤l*B:=kF5 _ (by unfold B;omega)
    omega)
   clear i1 b1 b2 b3 b4 hl J
   go_wp2
   go_quiet (fail)
   go_wp2
   go_ret;obtain⟨d',e⟩:=HW.out;have ht:=HE.out.2.1;refine⟨⟨t,kU7 Ending.returned (kU7 (Value.int IntKind.u32) ?_),HE.out⟩,_,by rw[e];exact World.drewN_drewN ..⟩
   unfold B at ht;omega
theorem zD6 {x n:Nat} (h:x<B^(n+1)):x / B^n=dg x n:=by
 rw[qV3,Nat.div_eq_of_lt h,Nat.zero_mul,kH6]
theorem zJ7 {x n:Nat} (u:Nat) (h:x / B^n=u):u*B^n≤x∧x<(u+1)*B^n:=by
 subst h;refine⟨kM9 ..,?_⟩
 rw[Nat.add_mul,Nat.one_mul];exact Nat.lt_div_mul_add (qZ2 n)
theorem c175 {g off cap D F T n r d:Nat} {w:World} (hn:n≤35184372088832) (qY:0<n) (hr:r<B^(n+1)) (hd:d<B^n) (V:B^(n - 1)≤d) (W:r<d*B)
  (u:∀ j,j≤n→w.cell? ⟨g,off+j,none⟩=some (.int .u32 (dg r j:Nat))) (H:∀ i,i<n→w.cell? ⟨D,F+i,none⟩=some (.int .u32 (dg d i:Nat))) :
  Ca 254 #[.slice (some ⟨g,off,none⟩) (n+1:Nat) cap,.slice (some ⟨D,F,none⟩) n T] w fun e w'=>(∃ t:Nat,e=.returned (.int .u32 t)∧r / d≤t∧t<B∧(t - 1)*d≤r)∧∃ k,w'=w.drewN k:=by
 have qQ:0<d:=kF6 (qZ2 _) V;have C:r / d<B:=(kM6 qQ).2 (by rw[kN4];exact W)
 have J:r / d*d≤r:=kM9 ..;by_cases I:n=1
 ·subst I;have e0:d=dg d 0:=by rw[qL4,kB2 (by simpa using hd)]
  have er:r=dg r 0+dg r 1*B:=by
   have h1:=qV3 r 0;have h2:=zD6 (n:=1) hr;simp at h1 h2
   rw[h2] at h1;omega
  have h:=kY1 g off cap D F T (dg r 1) (dg r 0) (dg d 0) w (qX1 _ _) (qX1 _ _) (qX1 _ _) ω (u 1 ω) (by have:=u 0 ω;rwa [kH7] at this) (by have:=H 0 ω;rwa [kH7] at this)
  rw[←e0,←er,show min (r / d) 4294967295=r / d from Nat.min_eq_left (by unfold B at C;exact Nat.le_of_lt_succ C)] at h
  refine h.mono ?_;rintro e w' ⟨rfl,L⟩;exact⟨⟨r / d,rfl,kH8 _,C,kF8 (kF5 _ (Nat.sub_le ..)) J⟩,L⟩
 ·obtain⟨k,rfl⟩:∃ k,n=k+2:=⟨n - 2,ω⟩;have t2:=zD6 (n:=k+2) hr;have t1:r / B^(k+1)=dg r (k+1)+dg r (k+2)*B:=by rw[qV3,t2];omega
  have t0:r / B^k=(dg r (k+1)+dg r (k+2)*B)*B+dg r k:=by rw[qV3,t1]
  have s1:d / B^(k+1)=dg d (k+1):=zD6 hd;have s0:d / B^k=dg d (k+1)*B+dg d k:=by rw[qV3,s1]
  obtain⟨u1,u2⟩:=zJ7 _ t1;obtain⟨v1,v2⟩:=zJ7 _ t0;obtain⟨x1,x2⟩:=zJ7 _ s1;obtain⟨y1,y2⟩:=zJ7 _ s0;have Y:dg d (k+1)≠0:=by
   intro e;rw[e] at x2;simp at x2 V
   omega
  have q1:r / d*dg d (k+1)≤dg r (k+1)+dg r (k+2)*B:=zR8 J u2 x1 (qZ2 _);have q0:r / d*(dg d (k+1)*B+dg d k)≤(dg r (k+1)+dg r (k+2)*B)*B+dg r k:=zR8 J v2 y1 (qZ2 _);have q2:r / d≤(dg r (k+1)+dg r (k+2)*B) / dg d (k+1):=(Nat.le_div_iff_mul_le ω).2 q1;have qZ:B*B^k≤d:=by rw[kN4,←qY0];simpa using V
  have fin:∀ e w',((∃ t:Nat,e=Ending.returned (.int .u32 t)∧r / d≤t∧t<B∧t*(dg d (k+1)*B+dg d k)≤(dg r (k+1)+dg r (k+2)*B)*B+dg r k)∧∃ n,w'=w.drewN n) →
    (∃ t:Nat,e=.returned (.int .u32 t)∧r / d≤t∧t<B∧(t - 1)*d≤r)∧∃ k,w'=w.drewN k:=by
   rintro e w' ⟨⟨t,rfl,a1,a2,a3⟩,L⟩;exact⟨⟨t,rfl,a1,a2,yS8 a3 a2 v1 y2 qZ (qZ2 _)⟩,L⟩
  have c2:=u (k+2) ω;have c1:=u (k+1) ω;have c0:=u k ω;have f1:=H (k+1) ω;have f0:=H k ω;have hm:(dg r (k+1)+dg r (k+2)*B) / dg d (k+1)*dg d (k+1)≤dg r (k+1)+dg r (k+2)*B:=kM9 ..;by_cases hT:(dg r (k+1)+dg r (k+2)*B) / dg d (k+1)≤4294967295
  ·refine(kY0 g off cap D F T k _ _ _ _ _ (r / d) _ w ω (qX1 _ _) (qX1 _ _) (qX1 _ _) (qX1 _ _) Y (qX1 _ _) rfl hT ⟨ω,q2,by unfold B at *; omega,q0⟩ c2 c1 c0 f1 f0).mono fin
  ·have qX:4294967295*dg d (k+1)≤dg r (k+1)+dg r (k+2)*B:=kF8 (kF5 _ ω) hm;refine(kY g off cap D F T k _ _ _ _ _ (r / d) _ w ω (qX1 _ _) (qX1 _ _) (qX1 _ _) (qX1 _ _) Y (qX1 _ _) rfl ω ⟨ω,by unfold B at *; omega,by unfold B;omega,q0⟩ c2 c1 c0 f1 f0).mono fin
theorem xJ1 (off j z u:Nat) (f:Nat→Nat) (s:Nat):put off j z (put off j u f) s=put off j z f s:=by
 unfold put;by_cases h:off≤s∧s<off+j
 ·rw[kU6 h,kU6 h]
 ·rw[kU5 h,kU5 h,kU5 h]
theorem xJ2 (off j z Y:Nat) (f:Nat→Nat) (h:z % B^j=Y % B^j) (s:Nat):put off j z f s=put off j Y f s:=by
 unfold put;by_cases u:off≤s∧s<off+j
 ·rw[kU6 u,kU6 u,←qN6 (x:=z) (n:=j) ω,h,qN6 ω]
 ·rw[kU5 u,kU5 u]
theorem c148 {g off cap V H cb n r d N:Nat} {f:Nat→Nat} {w:World} (hn:n≤35184372088832) (qB:0<n) (hr:r<B^(n+1)) (hd:d<B^n) (qK:B^(n - 1)≤d) (qF:r<d*B) (qQ:V≠g)
  (L:∀ i,i<n→w.cell? ⟨V,H+i,none⟩=some (.int .u32 (dg d i:Nat))) (hN:off+n+1≤N) (D:RowGe w g N (fun i=>.int .u32 (f i:Nat))) (hf:∀ j,j≤n→f (off+j)=dg r j) :
  Ca 218 #[.slice (some ⟨g,off,none⟩) (n+1:Nat) cap,.slice (some ⟨V,H,none⟩) n cb] w fun e w'=>e=.returned (.int .u32 (r / d:Nat))∧In g w w' N (put off (n+1) (r % d) f):=by
 have qX:0<d:=kF6 (qZ2 _) qK;have C:Ca 254 #[.slice (some ⟨g,off,none⟩) (n+1:Nat) cap,.slice (some ⟨V,H,none⟩) n cb] w fun e w'=>(∃ t:Nat,e=.returned (.int .u32 t)∧r / d≤t∧t<B∧(t - 1)*d≤r)∧∃ k,w'=w.drewN k :=
  c175 hn qB hr hd qK qF (fun j hj=>by rw[D.cell ω,hf j hj]) L
 have W:∀ t k,t<B→Ca 255 #[.slice (some ⟨g,off,none⟩) (n+1:Nat) cap,.slice (some ⟨V,H,none⟩) n cb,.int .u32 t] (w.drewN k) fun e w'=>e=.returned (.bool (decide (r<d*t)))∧In g (w.drewN k) w' N (put off (n+1) (wsub r (d*t) (n+1)) f) :=
  fun t k ht=>kX9 g off cap N n r d t V H cb (some ⟨V,H,none⟩) f (w.drewN k) hn (fun _=>rfl) qQ hd ht hr L hN ⟨Only.refl _ _,D⟩ hf
 have F:∀ (z:Nat) (w1 u:World),In g w1 u N (put off (n+1) z f)→(∀ i,i<n→Ce u V (H+i) (.int .u32 (dg d i:Nat))) →
   Ca 256 #[.slice (some ⟨g,off,none⟩) (n+1:Nat) cap,.slice (some ⟨V,H,none⟩) n cb] u fun e w'=>e=.returned (.tuple #[])∧In g u w' N (put off (n+1) (z+d) (put off (n+1) z f)) :=
  fun z w1 u h hc=>kX8 g off cap N n z d V H cb (some ⟨V,H,none⟩) _ u hn (fun _=>rfl) qQ hd hc hN ⟨Only.refl _ _,h.row⟩ (fun j hj=>by unfold put;rw[kU6 ω,Nat.add_sub_cancel_left])
 have qG:∀ t,r / d≤t→d*t≤r→r / d=t∧wsub r (d*t) (n+1)=r % d:=fun t h1 h2=>by
  have h3:t≤r / d:=(Nat.le_div_iff_mul_le qX).2 (by rw[kN4];exact h2)
  have h4:t=r / d:=ω;subst h4;refine⟨rfl,?_⟩
  rw[qM3 hr h2];have:=Nat.div_add_mod r d
  omega
 have qU:∀ t,t<B→(t - 1)*d≤r→r<d*t→r / d=t - 1∧(wsub r (d*t) (n+1)+d) % B^(n+1)=r % d % B^(n+1):=fun t ht h1 h2=>by
  have qH:0<t:=kB0 fun e=>by subst e;simp at h2
  have e1:d*t=(t - 1)*d+d:=by
   have:=Nat.add_mul (t - 1) 1 d
   rw[show t - 1+1=t by omega,Nat.one_mul] at this
   rw[kN4];exact this
  have h3:r / d=t - 1:=by
   rw[Nat.div_eq_iff qX];omega
  refine⟨h3,?_⟩
  have hm:d*t<B^(n+1):=by rw[qY0];exact Nat.mul_lt_mul_of_lt_of_le hd (kM8 ht) qG6
  have h5:=Nat.div_add_mod r d;rw[h3,kN4] at h5;have h6:wsub r (d*t) (n+1)=r+B^(n+1) - d*t:=by
   unfold wsub;rw[kB2 hm,kB2 ω]
  rw[h6,show r+B^(n+1) - d*t+d=r % d+B^(n+1) by omega,Nat.add_mod_right]
 have T:∀ k u z,In g (w.drewN k) u N (put off (n+1) z f)→∀ i,i<n→Ce u V (H+i) (.int .u32 (dg d i:Nat)):=fun k u z h i hi=>h.only.cell (p:=⟨V,H+i,none⟩) qQ (L i hi);have H1:Hid (∀ t,r / d≤t→d*t≤r→r / d=t∧wsub r (d*t) (n+1)=r % d):=qG;have H2:Hid (∀ t,t<B→(t - 1)*d≤r→r<d*t→r / d=t - 1∧(wsub r (d*t) (n+1)+d) % B^(n+1)=r % d % B^(n+1)):=qU;clear qG qU D hf L
 go_enter Tryz.func218,Tryz.ntmps218
 go_wp2_with fail;refine C.mono ?_;rintro e w1 ⟨⟨t,rfl,qY,I,qZ⟩,k,rfl⟩;have k6:=W t k I;have HT:Hid (r / d≤t∧t<B∧(t - 1)*d≤r):=⟨qY,I,qZ⟩;clear C W qY I qZ;by_cases J:r<d*t
 ·have Y:decide (r<d*t)=true:=kF2 J;rw[Y] at k6;have HL:Hid (r<d*t):=J;generalize hz:wsub r (d*t) (n+1)=z at *;have HZ:Hid (wsub r (d*t) (n+1)=z):=hz;clear J Y hz
  go_wp2_with fail;refine k6.mono ?_;rintro e u ⟨rfl,hI⟩;have k7:=F z _ u hI (T k u z hI);have HI:Hid (In g (w.drewN k) u N (put off (n+1) z f)):=hI;clear k6 F T hI
  go_wp2_with fail;refine k7.mono ?_;rintro e w3 ⟨rfl,qJ⟩;have qV:Hid (In g u w3 N (put off (n+1) (z+d) (put off (n+1) z f))):=qJ;clear k7 qJ
  go_wp2
  go_ret;obtain⟨a1,a2,a3⟩:=HT.out;obtain⟨b1,b2⟩:=H2.out t a2 a3 HL.out;have qH:0<t:=kB0 fun e=>by have:=HL.out;rw[e] at this;simp at this
  refine⟨kU7 Ending.returned (kU7 (Value.int IntKind.u32) ?_),?_,qV.out.row.congr fun i hi=>?_⟩
  ·rw[b1];unfold B at a2;omega
  ·exact((Only.drewN g w k).trans HI.out.only).trans qV.out.only
  ·rw[xJ1,xJ2 _ _ _ (r % d) _ (by rw[←HZ.out];exact b2)]
 ·have Y:decide (r<d*t)=false:=kF1 J;rw[Y] at k6;have HL:Hid (¬ r<d*t):=J;generalize hz:wsub r (d*t) (n+1)=z at *;have HZ:Hid (wsub r (d*t) (n+1)=z):=hz;clear J Y hz
  go_wp2_with fail;refine k6.mono ?_;rintro e u ⟨rfl,hI⟩;have HI:Hid (In g (w.drewN k) u N (put off (n+1) z f)):=hI;clear k6 F T hI
  go_wp2
  go_ret;obtain⟨a1,a2,a3⟩:=HT.out;obtain⟨b1,b2⟩:=H1.out t a1 (by have:=HL.out;omega)
  rw[b1];refine⟨rfl,(Only.drewN g w k).trans HI.out.only,HI.out.row.congr fun i hi=>?_⟩
  rw[←b2,HZ.out]
def cells (x n:Nat):List Value:=(List.range n).map fun i=>Value.int .u32 (dg x i:Nat)
theorem qX6 (x n:Nat):(cells x n).length=n:=by simp[cells]
theorem qJ8 {x n i:Nat} (h:i<n):(cells x n)[i]?=some (.int .u32 (dg x i:Nat)):=by simp[cells,h]
theorem Own.row {w:World} {u:Nat} {v:Value} {x:Nat} (h:Own w u v x):w.ownsRow u 96 1 v (dlen x) (cells x (dlen x)):=by
 rcases h with ⟨rfl,rfl⟩|⟨g,cap,f,rfl,V,F,T,⟨c,J,D,Y⟩,H⟩
 ·rw[qQ5];exact World.ownsRow_nil ..
 ·refine⟨by rw[qX6];omega,.inr ⟨g,cap,c,rfl,V,J,F,by unfold maxLen;omega,ω,?_⟩⟩
  apply List.ext_getElem?
  intro i;rw[kM1,List.getElem?_take];by_cases hi:i<dlen x
  ·rw[kU6 hi,qJ8 hi,Array.getElem?_toList,Y i ω,H i hi]
  ·rw[kU5 hi,List.getElem?_eq_none (by rw[qX6];omega)]
theorem xT7 {w:World} {u:Nat} {v:Value} {x:Nat} (h:w.ownsRow u 96 1 v (dlen x+1) (cells x (dlen x) ++ [.int .u32 0])) :
  ∃ g cap f,v=.slice (some ⟨g,0,none⟩) (dlen x+1) cap∧u≤g∧dlen x+1≤cap∧cap≤maxLen∧w.rowIs g 96 cap f∧∀ i,i<dlen x+1→f i=.int .u32 (dg x i:Nat):=by
 rcases h.2 with ⟨_,W⟩|⟨g,cap,c,Y,V,J,T,D,L,F⟩
 ·omega
 ·refine⟨g,cap,fun i=>(c[i]?).getD undef,Y,V,T,D,⟨c,J,ω,fun i hi=>?_⟩,fun i hi=>?_⟩
  ·simp only[];rw[Array.getElem?_eq_getElem ω];rfl
  ·have H:(cells x (dlen x) ++ [Value.int .u32 0])[i]?=c[i]?:=by
    rw[←F,kM1,List.getElem?_take,kU6 hi,Array.getElem?_toList]
   show(c[i]?).getD undef=_
   rw[←H];by_cases e:i<dlen x
   ·rw[List.getElem?_append_left (by rw[qX6];exact e),qJ8 e];rfl
   ·have:i=dlen x:=ω
    subst this;rw[List.getElem?_append_right (by rw[qX6];exact kH8 _),qX6,qK7 lR]
    simp
theorem yD0 {y n:Nat} (J:dlen y=n+1):dlen (y*2^(32 - bl (dg y n)))=n+1∧B^n≤y*2^(32 - bl (dg y n)):=by
 have Y:y≠0:=fun e=>by subst e;rw[qQ5] at J;omega
 have F:=qY5 y;rw[J] at F;have H:=yK4 Y;rw[J,kM5] at H;have h3:=zD6 F;obtain⟨h4,I⟩:=zJ7 _ h3;have C:=qG2 (dg y n);have W:=qD4 (qX1 y n);have D:=zJ1 W;have L:y*2^(32 - bl (dg y n))<B^(n+1):=by
  have T:y<2^bl (dg y n)*B^n:=kF6 I (kF5 _ C);have V:=kM4 T (kF3 (32 - bl (dg y n)));rw[qY0,←D]
  calc _<_:=V
   _=_:=by grind
 have u:B^n≤y*2^(32 - bl (dg y n)):=kF8 H (Nat.le_mul_of_pos_right _ (kF3 _));exact⟨yU0 L (.inr (by rw[kM5];exact u)),u⟩
theorem kK8 {u v:Value} {x y:Nat} {w:World} (J:Is w u x) (F:Is w v y) (hx:dlen x≤35184372088832) (H:dlen y≤35184372088832) (Y:x<y) :
  Ca 159 #[u,v] w fun e w'=>e=.returned (.tuple #[.slice none 0 0,.bool (decide (x % y=0))])∧∃ d,w'=w.drewN d:=by
 have k:=c129 J F hx H;obtain⟨ao,cap,rfl,-,-,-⟩:=J;have V:cmpI x y = -1:=by unfold cmpI;rw[kU6 ω]
 rw[V] at k;have e2:((dlen x:Int)==0)=decide (x % y=0):=by
  rw[kB2 Y];by_cases h:x=0
  ·subst h;simp[qQ5]
  ·have:=fun e=>h (qQ8.1 e)
   simp[h];omega
 generalize decide (x % y=0)=r at *;generalize dlen x=n at *;clear V
 go_enter Tryz.func159,Tryz.ntmps159
 go_wp2_with fail;refine k.mono ?_;rintro e D ⟨rfl,d,rfl⟩;clear k
 go_wp2
 go_ret2
 exact⟨rfl,d,rfl⟩
structure Dv (w wr:World) (gr go gd n K x y i:Nat):Prop where
 below:Bw w wr
 rest:RowGe wr gr (n+K+1) (fun t=>.int .u32 (dg (x % (y*B^i)) t:Nat))
 out:wr.rowIs go 96 K (fun t=>.int .u32 (if i≤t then dg (x / y) t else 0:Nat))
 dig:∀ j,j<n+1→wr.cell? ⟨gd,j,none⟩=some (.int .u32 (dg y j:Nat))
theorem xF2 (x y j:Nat):x % (y*B^(j+1)) % B^j+B^j*(x % (y*B^(j+1)) / B^j % y)=x % (y*B^j):=by
 rw[←Nat.mod_mul,kN4 (B^j) y];have:y*B^(j+1)=y*B^j*B:=by rw[qY0,kN6]
 rw[this,Nat.mod_mul_right_mod]
theorem xF3 (x y j:Nat):x % (y*B^(j+1)) / B^j / y=dg (x / y) j:=by
 have:y*B^(j+1)=y*B^j*B:=by rw[qY0,kN6]
 rw[kN0,kN4 (B^j) y,this,Nat.mod_mul_right_div_self,dg,kN0]
theorem kQ0 {x y j n:Nat} (u:0<y) (Y:y<B^(n+1)):x % (y*B^(j+1)) / B^j<y*B∧x % (y*B^(j+1)) / B^j<B^(n+1+1)∧x % (y*B^(j+1))<B^(j+(n+1+1)):=by
 have V:x % (y*B^(j+1))<y*B^(j+1):=kB3 _ (Nat.mul_pos u (qZ2 _));have J:x % (y*B^(j+1)) / B^j<y*B:=(kM6 (qZ2 j)).2 (by rw[kN6,kN4 B,←qY0];exact V)
 have F:y*B≤B^(n+1+1):=by rw[qY0 (n+1)];exact kF5 _ (kM8 Y)
 refine⟨J,ω,?_⟩
 have H:y*B^(j+1)≤B^(j+(n+1+1)):=by
  rw[show j+(n+1+1)=(n+1)+(j+1) by omega,kN3 B (n+1)]
  exact kF5 _ (kM8 Y)
 omega
theorem yR8 {w wr w':World} {Y u J n K x y j:Nat} {q:Int} (L:Dv w wr Y u J n K x y (j+1)) (H:0<y) (C:y<B^(n+1)) (D:w.heap.size≤Y) (T:w.heap.size≤u) (W:Y≠u) (h2:J≠Y) (h3:J≠u) (hj:j<K)
  (V:In Y wr w' (n+K+1) (put j (n+1+1) (x % (y*B^(j+1)) / B^j % y) (fun t=>dg (x % (y*B^(j+1))) t))) (I:q=(x % (y*B^(j+1)) / B^j / y:Nat)) :
  (∃ i:Nat,i≤K∧iV ((j:Int) - 1)=iV ((i:Int) - 1)∧Dv w (w'.setCell ⟨u,j,none⟩ (.int .u32 q)) Y u J n K x y i) ∧
  (intOf (iV ((j:Int) - 1))+1).toNat<(intOf (iV (j:Int))+1).toNat:=by
 obtain⟨r1,r2,r3⟩:=kQ0 (x:=x) (j:=j) H C;refine⟨⟨j,ω,rfl,?_,?_,?_,fun t F=>?_⟩,by simp[intOf]⟩
 ·exact(L.below.trans (V.only.below D)).setCell T _
 ·refine(V.row.of_block (Below.heap_setCell _ _ _ _ W)).congr fun t F=>?_
  congr 2
  rw[←xF2 x y j];generalize x % (y*B^(j+1))=R at *;unfold put;by_cases e:j≤t∧t<j+(n+1+1)
  ·rw[kU6 e];obtain⟨s,rfl⟩:∃ s,t=j+s:=⟨t - j,ω⟩;rw[Nat.add_sub_cancel_left,←qR7,Nat.add_mul_div_left _ _ (qZ2 j),Nat.div_eq_of_lt (kB3 _ (qZ2 j)),kH6]
  ·rw[kU5 e];show dg R t=_
   by_cases e2:t<j
   ·rw[←qN6 (x:=R) e2,←qN6 (x:=R % B^j+_) e2,Nat.add_mul_mod_self_left,Nat.mod_mod]
   ·have h5:R % B^j+B^j*(R / B^j % y)≤R:=by
     have:=Nat.mod_add_div R (B^j)
     have:=kB1 (B^j) (Nat.mod_le (R / B^j) y)
     omega
    have h6:B^(j+(n+1+1))≤B^t:=kF4 qG6 ω;rw[qU0 ω,qU0 ω]
 ·refine((L.out.of_block (V.only.block u (Ne.symm W))).set j _).congr fun t F=>?_
  by_cases e:t=j
  ·subst e;rw[kU6 rfl,kU6 lR,I,xF3]
  ·rw[kU5 e];by_cases e2:j+1≤t
   ·rw[kU6 e2,kU6 ω]
   ·rw[kU5 e2,kU5 ω]
 ·rw[World.cell?_setCell_other _ _ _ _ (fun e=>by have:=kU7 Addr.block e;simp at this;omega)]
  exact V.only.cell (p:=⟨J,t,none⟩) h2 (L.dig t F)
theorem kK7 {u v:Value} {x y:Nat} {w:World} (T:Is w u x) (h2:Is w v y) (hx:dlen x≤17592186044416) (hy:dlen y≤17592186044416) (qM:y≠0) (zX:y≤x) :
  Ca 159 #[u,v] w fun e w'=>∃ q,e=.returned (.tuple #[q,.bool (decide (x % y=0))])∧Own w' w.heap.size q (x / y)∧Bw w w':=by
 have qQ:=c129 T h2 ω ω;have e1:¬ cmpI x y<0:=by unfold cmpI;rw[kU5 ω];split <;> omega
 generalize cmpI x y=cv at *;have zZ:=qJ1 qM;obtain⟨n,hn⟩:∃ n,dlen y=n+1:=⟨_,zZ⟩;have H1:Hid (Is w u x):=T;have H2:Hid (Is w v y):=h2;obtain⟨bo,cb,rfl,b1,b2,bb,ob,b3,b4⟩:=h2;rw[hn] at b3 b4 qQ H2 ⊢;obtain rfl:=b3 ω;have g1:=b4 n ω;have qB:=fun w=>c147 (dg y n) (qX1 _ _) w;have zO:32 - bl (dg y n)≤32:=ω;generalize qA:32 - bl (dg y n)=sp at *;have V:Hid (dlen (y*2^sp)=n+1∧B^n≤y*2^sp):=by rw[←qA];exact yD0 hn
 have yY:n≤17592186044416:=ω;have qJ:Hid (y≤x∧y≠0∧dlen x≤17592186044416∧dlen y≤17592186044416):=⟨zX,qM,hx,hy⟩;generalize dg y n=zI at *;clear b3 b4 T zZ
 go_enter Tryz.func159,Tryz.ntmps159
 go_wp2_with fail;refine qQ.mono ?_;rintro e w1 ⟨rfl,d,rfl⟩;clear qQ
 go_wp2_with fail;refine(qB _).mono ?_
 rintro e w1 ⟨rfl,rfl⟩;clear qB e1 qA g1 b1 b2 hn zX qM hx hy
 go_wp2_with fail;refine(c109 (w:=w.drewN d) H2.out sp (by have:=qJ.out.2.2.2;omega) ω).mono ?_
 rintro e w2 ⟨vd,rfl,zU,qU⟩;have zG:Is w2 u x:=Is.later (w:=w.drewN d) H1.out qU
 go_wp2_with fail;refine(c109 zG sp (by have:=qJ.out.2.2.1;omega) ω).mono ?_
 rintro e w3 ⟨vm,rfl,zV,qV⟩;have zT:∃ W qK,vd=.slice (some ⟨W,0,none⟩) (n+1) qK∧W<w2.heap.size∧w.heap.size≤W∧∀ i,i<n+1→Ce w3 W i (.int .u32 (dg (y*2^sp) i:Nat)):=by
  rcases zU with ⟨_,h0⟩|⟨g,cap,f,rfl,hb,T,h2,h3,h4⟩
  ·have:=V.out.1
   rw[h0,qQ5] at this;omega
  ·rw[V.out.1] at T h4 ⊢;exact⟨g,cap,rfl,h3.lt,hb,fun i hi=>(qV.cell (p:=⟨g,i,none⟩) h3.lt).trans (by rw[h3.cell ω,h4 i hi])⟩
 obtain⟨W,qK,rfl,zA,zE,zB⟩:=zT;have I:Bw w w3:=Below.trans (b:=w2) (Below.trans (b:=w.drewN d) ⟨rfl,rfl,rfl,kH8 _,fun _ _=>rfl⟩ qU) (qV.mono qU.size);have qD:=zV.row;have zR:dlen (x*2^sp)≤17592186044420:=by have:=qK2 (x:=x) (k:=sp) rfl;have:=qJ.out.2.2.1;omega
 generalize qE:x*2^sp=J at *;generalize qC:y*2^sp=Y at *;have H:Hid (x*2^sp=J∧y*2^sp=Y):=⟨qE,qC⟩;have zS:w2.heap.size≤w3.heap.size:=qV.size;clear zU qU zG qV qE qC zV;obtain⟨i0,hi,qL,qT,qR⟩:=info_parts Tryz.info96
 go_wp2_with (at_builtin;refine wpList_append_own _ rfl _ _ 48 rfl w2.heap.size 96 i0 (.int .u32 0) 1 4 Tryz.underlying48 hi qL qT qR rfl δ _ _ _ rfl (qD.alloc _) ⟨w3.heap.size,0,none⟩ 1 1 [.int .u32 0] rfl rfl ?c1 ?c2 ?c3 ?c4 ?c5 ?_)
 case c1=>exact(cell_one_new _ _ _)
 case c2=>intro u hu;simp at hu;subst hu;rfl
 case c3=>unfold maxLen;omega
 case c4=>omega
 case c5=>simp;omega
 intro v' w4 qZ D _;obtain⟨L,qX,F,rfl,yX,qS,zD,C,hF⟩:=xT7 qZ;have qP:∀ k,vm.ownBlock=some k→w2.heap.size≤k:=fun k hk=>(qD.lt k hk).1;have qY:Bw w w4:=Below.grown (I.alloc (by have:=I.size;omega) _) D (by have:=I.size;simp;omega) (fun k hk=>by have:=qP k hk;omega)
 have zF:∀ i,i<n+1→Ce w4 W i (.int .u32 (dg Y i:Nat)):=fun i hi =>
  D.cell (a:=⟨W,i,none⟩) (by rw[World.cell?_alloc_old _ _ _ (by show W≠w3.heap.size;omega)];exact zB i hi) (fun e=>by have:=qP W e.symm;omega)
 have zC:w3.heap.size+1≤w4.heap.size:=by have:=D.size;simpa using this
 obtain⟨K,hK⟩:∃ K,dlen J=n+K:=⟨dlen J - n,by
  have T:Y≤J:=by rw[←H.out.1,←H.out.2];exact kF5 _ qJ.out.1
  have:=qZ5 T
  rw[V.out.1] at this;omega⟩
 have yK:1≤K:=by
  have T:Y≤J:=by rw[←H.out.1,←H.out.2];exact kF5 _ qJ.out.1
  have:=qZ5 T
  rw[V.out.1] at this;omega
 have HK:Hid (dlen J=n+K):=hK;rw[hK] at qS hF zR ⊢;have zY:=run_make_row' (P:=Tryz.prog) 48 96 (.int .u32 0) 4 Tryz.underlying48 Tryz.info96 rfl .i64 .i64 K ω ω;have eK:(K:Int)=(n:Int)+K+1 - (n+1):=ω;rw[eK] at zY;have zH:Dv w (w4.alloc (.cells (madeCells #[.int .u32 0] K) 96)) L w4.heap.size W n K J Y K:=by
  refine⟨qY.alloc (by have:=qY.size;omega) _,?_,?_,fun j hj=>?_⟩
  ·refine((RowGe.of C qS).congr fun i hi=>?_).of_block (Below.heap_alloc _ _ _ C.lt)
   rw[hF i hi,kB2];have T:=qY5 J;rw[HK.out,kN3] at T;exact kF6 T (kF5 _ V.out.2)
  ·refine(World.rowIs_made w4 _ K 96).congr fun i hi=>?_
   rw[kU5 ω];rfl
  ·rw[World.cell?_alloc_old _ _ _ (by show W≠w4.heap.size;omega)];exact zF j hj
 have zW:Hid (Dv w (w4.alloc (.cells (madeCells #[.int .u32 0] K) 96)) L w4.heap.size W n K J Y K):=zH;have yZ:L<w4.heap.size:=C.lt;have HF:Hid (w.heap.size≤L):=(by have:=qY.size;omega:w.heap.size≤L)
 have HG:Hid (w.heap.size≤w4.heap.size):=qY.size;clear qZ D qD zB I qP hK hF hi qL qT qR C zH eK qY zF
 go_wp2;clear zY;generalize w4.heap.size=go at *;generalize w4.alloc (.cells (madeCells #[.int .u32 0] K) 96)=w5 at *
 go_loopw [9] (fun c wr=>∃ i:Nat,i≤K∧c=iV ((i:Int) - 1)∧Dv w wr L go W n K J Y i) (fun c _=>(intOf c+1).toNat)
 case atStart=>exact⟨K,kH8 _,rfl,zW.out⟩
 case round =>
  obtain⟨i,hi,rfl,hV⟩:=hrel;by_cases zP:i=0
  ·subst zP;have hB:=hV.below;have zQ:J<Y*B^K:=by
    have T:=qY5 J;rw[HK.out,kN3] at T;exact kF6 T (kF5 _ V.out.2)
   have qO:dlen (J / Y)≤K:=(qZ3 _ _).2 ((kM6 (kF6 (qZ2 n) V.out.2)).2 (by rw[kN4];exact zQ))
   have yQ:dlen (J % Y)≤n+K+1:=by
    have T:=qZ5 (kM8 (kB3 J (kF6 (qZ2 n) V.out.2)));rw[V.out.1] at T;omega
   have zM:At wr (some ⟨go,0,none⟩) K (J / Y):=⟨go,0,fun _=>rfl,fun i hi=>by rw[kH6,hV.out.cell hi,kU6 (kB4 _)]⟩
   have zN:At wr (some ⟨L,0,none⟩) (n+K+1) (J % Y):=⟨L,0,fun _=>rfl,fun i hi=>by rw[kH6,hV.rest.cell hi,kN7,kM1]⟩
   have HO:Hid (Own wr w.heap.size (.slice (some ⟨go,0,none⟩) (dlen (x / y)) K) (x / y)∧Bw w wr):=by
    have e:J / Y=x / y:=by rw[←H.out.1,←H.out.2];exact Nat.mul_div_mul_right _ _ (kF3 _)
    rw[e] at qO;exact⟨.inr ⟨go,K,_,rfl,HG.out,qO,ω,hV.out,fun i hi=>by rw[kU6 (kB4 _),e]⟩,hB⟩
   have HE:Hid (dlen (J / Y)=dlen (x / y)∧((dlen (J % Y):Int)==0)=decide (x % y=0)):=by
    have e:J / Y=x / y:=by rw[←H.out.1,←H.out.2];exact Nat.mul_div_mul_right _ _ (kF3 _)
    have e2:J % Y=x % y*2^sp:=by rw[←H.out.1,←H.out.2];exact Nat.mul_mod_mul_right ..
    refine⟨by rw[e],?_⟩
    rw[e2];by_cases h:x % y=0
    ·rw[h];simp[qQ5]
    ·have T:x % y*2^sp≠0:=Nat.ne_of_gt (Nat.mul_pos ω (kF3 _));have:=fun e=>T (qQ8.1 e)
     simp[h];omega
   clear hV hB zQ;generalize zJ:dlen (J / Y)=dq at *;generalize zK:dlen (J % Y)=dr at *;have qH:Ca 199 #[.slice (some ⟨go,0,none⟩) K K] wr fun e w'=>e=.returned (.slice (some ⟨go,0,none⟩) dq K)∧w'=wr:=by
    rw[←zJ];exact c62 _ _ _ (J / Y) _ ω lR ω zM
   have qG:Ca 199 #[.slice (some ⟨L,0,none⟩) (n+K+1) qX] wr fun e w'=>e=.returned (.slice (some ⟨L,0,none⟩) dr qX)∧w'=wr:=by
    rw[←zK];exact c62 _ _ _ (J % Y) _ ω qS ω zN
   clear zM zN zJ zK
   go_wp2_with fail;refine qH.mono ?_;rintro e w6 ⟨rfl,rfl⟩;clear qH
   go_wp2_with fail;refine qG.mono ?_;rintro e w6 ⟨rfl,rfl⟩;clear qG
   go_wp2
   go_ret2
   refine⟨.slice (some ⟨go,0,none⟩) dq K,?_,?_⟩
   ·rw[←HE.out.2];rfl
   ·rw[HE.out.1];exact HO.out
  ·obtain⟨j,rfl⟩:∃ j,i=j+1:=⟨i - 1,ω⟩;rw[show((j+1:Nat):Int) - 1=(j:Int) by omega]
   have qN:Y<B^(n+1):=by rw[←V.out.1];exact qY5 Y
   have qW:0<Y:=kF6 (qZ2 n) V.out.2;obtain⟨r1,r2,r3⟩:=kQ0 (x:=J) (j:=j) qW qN;have eL:j+(n+1)+1 - j=n+1+1:=ω;have qF:Ca 218 #[.slice (some ⟨L,j,none⟩) (j+(n+1)+1 - j) (qX - j),.slice (some ⟨W,0,none⟩) (n+1) qK] wr fun e w' =>
     e=.returned (.int .u32 (J % (Y*B^(j+1)) / B^j / Y:Nat))∧In L wr w' (n+K+1) (put j (n+1+1) (J % (Y*B^(j+1)) / B^j % Y) (fun t=>dg (J % (Y*B^(j+1))) t)):=by
    rw[eL];exact c148 ω ω r2 qN (by rw[kM5];exact V.out.2) r1 ω (fun i hi=>by rw[kH6];exact hV.dig i hi) ω hV.rest (fun t ht=>(qR7 _ _ _).symm)
   have HV:Hid (Dv w wr L go W n K J Y (j+1)):=hV;have g3:=hV.out.frozen j;have g2:=hV.out.cell (i:=j) ω;clear hV r1 r2 r3 eL qN qW;have HQ:Hid (J % (Y*B^(j+1)) / B^j / Y=J % (Y*B^(j+1)) / B^j / Y):=(rfl:_=_)
   go_wp2_with fail;refine qF.mono ?_;rintro e w6 ⟨rfl,hI⟩;have yJ:w6.frozen? ⟨go,j,none⟩=false:=(World.frozen?_of_block (w:=wr) (hI.only.block go ω)).trans g3;have yV:=hI.only.cell (p:=⟨go,j,none⟩) (by show go≠L;omega) g2
   have HI:Hid (In L wr w6 (n+K+1) (put j (n+1+1) (J % (Y*B^(j+1)) / B^j % Y) (fun t=>dg (J % (Y*B^(j+1))) t))):=hI;clear qF hI g2 g3;generalize qI:J % (Y*B^(j+1)) / B^j / Y=qv at *;have zL:Hid (J % (Y*B^(j+1)) / B^j / Y=qv):=qI;clear qI HQ
   go_wp2;exact yR8 HV.out (kF6 (qZ2 n) V.out.2) (by rw[←V.out.1];exact qY5 Y) HF.out HG.out ω ω ω ω HI.out (by rw[zL.out])
theorem c100 {u v:Value} {x y:Nat} {w:World} (V:Is w u x) (J:Is w v y) (hx:dlen x≤17592186044416) (H:dlen y≤17592186044416) (Y:y≠0) :
  Ca 159 #[u,v] w fun e w'=>∃ q,e=.returned (.tuple #[q,.bool (decide (x % y=0))])∧Own w' w.heap.size q (x / y)∧Bw w w':=by
 by_cases h:x<y
 ·refine(kK8 V J ω ω h).mono ?_
  rintro e w' ⟨rfl,d,rfl⟩;exact⟨_,rfl,.inl ⟨rfl,Nat.div_eq_of_lt h⟩,⟨rfl,rfl,rfl,kH8 _,fun _ _=>rfl⟩⟩
 ·exact kK7 V J hx H Y ω
end Go.Proofs.YtfkaogdmlcdceaaGreatDoor
namespace Go.Proofs.YtfkaogdmlcdceaaGreatDoor
attribute [local go_sem] iV Nu
theorem qW4 (x:Nat):dlen (x+1)≤dlen x+1:=by
 rw[qZ3,qY0];have u:=qY5 x;have:B^dlen x*2≤B^dlen x*B:=kB1 _ (by unfold B;omega)
 have:=qZ2 (dlen x)
 omega
end Go.Proofs.YtfkaogdmlcdceaaGreatDoor
namespace Go.Proofs.YtfkaogdmlcdceaaGreatDoor
open Go.RowKit
attribute [local go_sem] iV Nu
theorem c181 (x:Nat) (hx:x<18446744073709551616) (w:World) :
  Ca 108 #[.int .u64 x] w fun e w'=>e=.returned (iV (bl x:Nat))∧w'=w:=by
 rw[qI3];obtain⟨X,J⟩:∃ X:Int,X=(x:Int):=⟨_,rfl⟩;rw[←J];have V:0≤X:=ω;have u:Hid (X<18446744073709551616):=(by omega:X<18446744073709551616)
 have Y:Hid _:=J;clear J hx
 go_enter Tryz.func108,Tryz.ntmps108
 go_wp2;all_goals go_ret
 all_goals (refine⟨kU7 Ending.returned (kU7 (Value.int IntKind.i64) ?_),rfl⟩)
 all_goals have F:=u.out
 all_goals have H:=Y.out
 all_goals clear u Y
 all_goals subst H
 all_goals rw[len8tab_get]
 ·exact len_fin x 56 72057594037927936 _ δ δ ω ω ω
 ·exact len_fin x 48 281474976710656 _ δ δ ω ω ω
 ·exact len_fin x 40 1099511627776 _ δ δ ω ω ω
 ·exact len_fin x 32 4294967296 _ δ δ ω ω ω
 ·exact len_fin x 24 16777216 _ δ δ ω ω ω
 ·exact len_fin x 16 65536 _ δ δ ω ω ω
 ·exact len_fin x 8 256 _ δ δ ω ω ω
 ·exact len_fin0 x ω
theorem c156 (x:Nat) (hx:x<18446744073709551616) (w:World) :
  Ca 155 #[.int .u64 x] w fun e w'=>e=.returned (iV (bl x:Nat))∧w'=w:=by
 have k:=c181 x hx;clear hx;generalize bl x=b at *
 go_enter Tryz.func155,Tryz.ntmps155
 go_wp2_with (first|(go_at_call 108;refine(k _).mono ?_;rintro e w' ⟨rfl,rfl⟩))
 go_ret;exact⟨rfl,rfl⟩
theorem Is.trim {w:World} {v:Value} {x:Nat} (h:Is w v x) (hx:dlen x≤35184372088832):Ca 199 #[v] w fun e w'=>e=.returned v∧w'=w:=by
 obtain⟨ao,cap,rfl,Y,J,u⟩:=h;exact c62 ao _ cap x w lR Y ω u
theorem Is.alloc {w:World} {v:Value} {x:Nat} (h:Is w v x) (o:Obj):Is (w.alloc o) v x:=h.later (bR.alloc lR _)
theorem qX8 {w:World} {g:Nat} {a b c:Value} (J Y u:Value) (h:w.heap[g]?=some (.cells #[a,b,c] 50 (0,0))) :
  (((w.setCell ⟨g,0,none⟩ J).setCell ⟨g,1,none⟩ Y).setCell ⟨g,2,none⟩ u).heap[g]?=some (.cells #[J,Y,u] 50 (0,0)):=by
 simp[World.setCell,Array.getElem?_modify,h]
theorem qQ3 {w:World} {g:Nat} {a b c:Value} (h:w.heap[g]?=some (.cells #[a,b,c] 50 (0,0))) :
  (w.cell? ⟨g,0,none⟩=some a∧w.cell? ⟨g,1,none⟩=some b∧w.cell? ⟨g,2,none⟩=some c)∧(w.frozen? ⟨g,0,none⟩=false∧w.frozen? ⟨g,1,none⟩=false∧w.frozen? ⟨g,2,none⟩=false):=by
 simp[World.cell?,World.frozen?,h]
theorem qQ0 {w w':World} {g:Nat} {o:Obj} {B:Nat} (h:w.heap[g]?=some o) (Y:Below B w w') (u:g<B):w'.heap[g]?=some o:=(Y.block g u).trans h
theorem qQ4 {B:Nat} {w w':World} {g:Nat} (h:Below B w w') (u:B≤g) (a b c:Value):Below B w (((w'.setCell ⟨g,0,none⟩ a).setCell ⟨g,1,none⟩ b).setCell ⟨g,2,none⟩ c) :=
 ((h.setCell u _).setCell u _).setCell u _
theorem qU6 {w:World} {u g x:Nat} {v:Value} (h:Own w u v x) (L:g<u) (a b c:Value):Own (((w.setCell ⟨g,0,none⟩ a).setCell ⟨g,1,none⟩ b).setCell ⟨g,2,none⟩ c) u v x:=by
 rcases h with h|⟨Y,cap,f,T,D,F,H,V,J⟩
 ·exact .inl h
 ·exact .inr ⟨Y,cap,f,T,D,F,H,((V.setOther (by show Y≠g;omega) _).setOther (by show Y≠g;omega) _).setOther (by show Y≠g;omega) _,J⟩
theorem Tryz.info50:(Tryz.prog.info? 50).map (·.size)=some 3:=by kernel_rfl
theorem c56_0 (neg:Bool) (ao:Option Addr) (cap:Nat) (e:Int) (w:World) (h:Is w (.slice ao 0 cap) 0) :
  Ca 153 (Nu neg ao 0 cap e) w fun e w'=>e=.returned (.agg (Nu false none 0 0 0))∧Bw w w':=by
 have k:=(h.alloc (.cells (Nu false none 0 0 0) 50)).trim (by rw[qQ5];omega)
 have u:Hid (Below w.heap.size w (w.alloc (.cells (Nu false none 0 0 0) 50))):=bR.alloc lR _;clear h
 go_enter Tryz.func153,Tryz.ntmps153
 go_wp2_with fail;refine k.mono ?_;rintro e Y ⟨rfl,rfl⟩
 go_wp2;refine kB8 (kM2 rfl _ _ w.heap.size 50 (Nu false none 0 0 0) (0,0) _ rfl (kB7 _ _) Tryz.underlying50 rfl Tryz.info50) rfl ?_;exact⟨rfl,u.out⟩
theorem c56_1 (neg:Bool) (ao:Option Addr) (n cap x:Nat) (e:Int) (w:World) (h:Is w (.slice ao n cap) x) (hn:dlen x=n) (hx:dlen x≤1000000000) (u:x≠0) (hT:Tab32 w) (he : -4611686018427387904≤e∧e≤4611686018427387904) :
  Ca 153 (Nu neg ao n cap e) w fun r w'=>∃ v,r=.returned (.agg #[.bool neg,v,iV (e+tz x)])∧Own w' w.heap.size v (x / 2^tz x)∧Bw w w':=by
 obtain⟨D,Y⟩:=eE (w.alloc (.cells (Nu false none 0 0 0) 50));have J:Bw w D:=by rw[Y];exact bR.alloc lR _
 have C:=h.later J;have L:=hT.later J;have T:=C.trim ω;have H:=c119 C ω u L;have qZ:tz x≤32000000000:=by
  have h1:=(qX0 _ x lR u);have h2:2^tz x≤x:=by
   have h3:1≤x / 2^tz x:=kB0 fun e0=>by have:=h1.2;rw[e0] at this;simp at this
   have:=kB1 (2^tz x) h3
   omega
  have h4:=qG2 x;have h5:tz x<bl x:=Nat.lt_of_not_le fun h6=>by
   have:=kF4 (n:=2) ω h6
   omega
  have:=zQ8 u
  have:=qD4 (qX1 x (dlen x - 1))
  omega
 have V:=c120 C (tz x) ω ω;have qY:((n:Int)==0)=false:=by
  have:dlen x≠0:=fun e=>u (qQ8.1 e)
  simp;omega
 have HH:Hid (Hn D w.heap.size false none 0 0 0 50):=(by rw[Y];exact kB7 _ _:Hn D w.heap.size false none 0 0 0 50)
 have qQ:Hid _:=J;have HX:Hid (D.heap.size=w.heap.size+1):=(by rw[Y];simp:D.heap.size=w.heap.size+1)
 generalize F:tz x=t at *;have qJ:Hid _:=F;obtain⟨qK,qX⟩:=he;clear h C hT L hn u hx J F
 go_enter Tryz.func153,Tryz.ntmps153
 go_wp2_with fail;rw[←Y];clear Y;refine T.mono ?_;rintro e w1 ⟨rfl,rfl⟩;clear T
 go_wp2_with fail;refine H.mono ?_;rintro e w2 ⟨rfl,rfl⟩;clear H
 go_wp2_with fail;refine V.mono ?_;rintro e w3 ⟨v,rfl,I,hB⟩;obtain⟨va,vc,rfl,-,-,-⟩:=I.is;generalize dlen (x / 2^t)=vl at *;have W:Hid (Hn w3 w.heap.size false none 0 0 0 50):=qQ0 HH.out hB (by have:=HX.out;omega)
 obtain⟨⟨a1,a2,a3⟩,a4,a5,a6⟩:=qQ3 W.out;have HO:Hid _:=I;have HB:Hid _:=hB;clear V I hB
 go_wp2;refine kB8 (kM2 rfl _ _ w.heap.size 50 (Nu neg va vl vc (e+t)) (0,0) _ rfl (qX8 _ _ _ W.out) Tryz.underlying50 rfl Tryz.info50) rfl ?_;have hx:=HX.out;exact⟨_,rfl,(qU6 HO.out ω _ _ _).mono ω,qQ4 (qQ.out.trans (HB.out.mono ω)) lR _ _ _⟩
def NumV (neg:Bool) (v:Value) (e:Int):Value:=.agg #[.bool neg,v,.int .i64 e]
def Nrm (w':World) (base:Nat) (a:Value) (neg:Bool) (x:Nat) (e:Int):Prop :=
 (x=0∧a=NumV false (.slice none 0 0) 0)∨(x≠0∧∃ v,a=NumV neg v (e+tz x)∧Own w' base v (x / 2^tz x))
theorem c56 {neg:Bool} {m:Value} {x:Nat} {e:Int} {w:World} (h:Is w m x) (hx:dlen x≤1000000000) (H:Tab32 w) (V : -4611686018427387904≤e∧e≤4611686018427387904) :
  Ca 153 #[.bool neg,m,iV e] w fun r w'=>∃ a,r=.returned a∧Nrm w' w.heap.size a neg x e∧Bw w w':=by
 have F:=h;obtain⟨ao,cap,rfl,-,-,-⟩:=F;by_cases Y:x=0
 ·subst Y;rw[qQ5] at h ⊢;refine(c56_0 neg ao cap e w h).mono ?_
  rintro r w' ⟨rfl,u⟩;exact⟨_,rfl,.inl ⟨rfl,rfl⟩,u⟩
 ·refine(c56_1 neg ao _ cap x e w h rfl hx Y H V).mono ?_
  rintro r w' ⟨v,rfl,J,u⟩;exact⟨_,rfl,.inr ⟨Y,v,rfl,J⟩,u⟩
theorem c18_0 (neg:Bool) (ao:Option Addr) (cap:Nat) (e:Int) (w:World) :
  Ca 190 #[.agg (Nu neg ao 0 cap e)] w fun r w'=>r=.returned (.bool (e==0 && !neg))∧w'=w.alloc (.cells (Nu neg ao 0 cap e) 50):=by
 by_cases Y:e=0
 ·subst Y
  go_enter Tryz.func190,Tryz.ntmps190
  go_wp2
  go_ret;exact⟨by simp,rfl⟩
 ·have u:(e==0)=false:=by simp;exact Y
  go_enter Tryz.func190,Tryz.ntmps190
  go_wp2
  go_ret;exact⟨by simp[u],rfl⟩
theorem c18_1 (neg:Bool) (b o m cap p q:Nat) (e:Int) (w:World) (J:w.cell? ⟨b,o+m,none⟩=some (.int .u32 q)) (V:w.cell? ⟨b,o,none⟩=some (.int .u32 p)) (L:m≤35184372088832) :
  Ca 190 #[.agg (Nu neg (some ⟨b,o,none⟩) (m+1) cap e)] w fun r w'=>r=.returned (.bool (decide (m+1≤2048)&&(q != 0)&&(p % 2==1)&&decide (-65536≤e)&&decide (e≤65536)))∧w'=w.alloc (.cells (Nu neg (some ⟨b,o,none⟩) (m+1) cap e) 50):=by
 have D:∀ Y,(w.alloc Y).cell? ⟨b,o+m,none⟩=some (.int .u32 q):=fun Y=>World.cell?_alloc_old w Y _ (Nat.ne_of_lt (World.block_lt_of_cell? _ _ J)) ▸ J;have T:∀ Y,(w.alloc Y).cell? ⟨b,o,none⟩=some (.int .u32 p):=fun Y=>World.cell?_alloc_old w Y _ (Nat.ne_of_lt (World.block_lt_of_cell? _ _ V)) ▸ V;have F:=World.block_lt_of_cell? _ _ J;generalize u:(decide (m+1≤2048)&&(q != 0)&&(p % 2==1)&&decide (-65536≤e)&&decide (e≤65536))=ans;have H:Hid _:=u.symm;clear u
 go_enter Tryz.func190,Tryz.ntmps190
 go_wp2;all_goals go_ret
 all_goals refine⟨kU7 Ending.returned (kU7 Value.bool ?_),rfl⟩
 all_goals rw[H.out]
 all_goals clear H J V D T
 all_goals go_light
 all_goals (rw[Bool.eq_iff_iff];simp;omega)
def okN (neg:Bool) (n z:Nat) (e:Int):Bool :=
 if n=0 then(e==0 && !neg)else decide (n≤2048)&&(dg z (n - 1) != 0)&&(dg z 0 % 2==1)&&decide (-65536≤e)&&decide (e≤65536)
theorem c18 {neg:Bool} {ao:Option Addr} {n cap z:Nat} {e:Int} {w:World} (h:At w ao n z) (V:n≤35184372088832) :
  Ca 190 #[.agg (Nu neg ao n cap e)] w fun r w'=>r=.returned (.bool (okN neg n z e))∧w'=w.alloc (.cells (Nu neg ao n cap e) 50):=by
 unfold okN;by_cases Y:n=0
 ·subst Y;exact c18_0 neg ao cap e w
 ·obtain⟨b,o,J,u⟩:=h;obtain rfl:=J ω;obtain⟨m,rfl⟩:∃ m,n=m+1:=⟨n - 1,ω⟩;rw[kU5 Y,kM5];exact c18_1 neg b o m cap _ _ e w (u m ω) (by have:=u 0 ω;rwa [kH7] at this) ω
theorem c67 (g k:Nat) (ng:Nat→Bool) (ao:Nat→Option Addr) (n cap z:Nat→Nat) (e:Nat→Int) (w:World) (hk:k≤3)
  (I:∀ i,i<k→w.cell? ⟨g,i*3,none⟩=some (.bool (ng i))) (H:∀ i,i<k→w.cell? ⟨g,i*3+1,none⟩=some (.slice (ao i) (n i) (cap i))) (C:∀ i,i<k→w.cell? ⟨g,i*3+2,none⟩=some (iV (e i)))
  (hA:∀ i,i<k→At w (ao i) (n i) (z i)) (hn:∀ i,i<k→n i≤35184372088832) :
  Ca 128 #[.slice (some ⟨g,0,none⟩) k k] w (Rq w (.bool (decide (∀ i,i<k→okN (ng i) (n i) (z i) (e i)=true)))):=by
 generalize J:decide (∀ i,i<k→okN (ng i) (n i) (z i) (e i)=true)=ans;have HA:Hid _:=J.symm;clear J
 go_enter Tryz.func128,Tryz.ntmps128
 go_wp2
 go_loopw [7] (fun i wr=>∃ j:Nat,j≤k∧i=iV j∧Hid (Bw w wr)∧Hid (∀ i,i<j→okN (ng i) (n i) (z i) (e i)=true)) (fun i _=>k - (intOf i).toNat)
 case atStart=>exact⟨0,kB4 _,rfl,kH9 _ _,(fun i hi=>absurd hi (Nat.not_lt_zero _):∀ i,i<0→okN (ng i) (n i) (z i) (e i)=true)⟩
 case round =>
  obtain⟨j,hj,rfl,V,hok⟩:=hrel;by_cases u:j<k
  ·have a0:Ce wr g (j*3) (.bool (ng j)):=(V.out.cell (World.block_lt_of_cell? _ _ (I j u))).trans (I j u);have a1:Ce wr g (j*3+1) (.slice (ao j) (n j) (cap j)):=(V.out.cell (World.block_lt_of_cell? _ _ (H j u))).trans (H j u);have a2:Ce wr g (j*3+2) (iV (e j)):=(V.out.cell (World.block_lt_of_cell? _ _ (C j u))).trans (C j u);have hg:g<wr.heap.size:=World.block_lt_of_cell? _ _ a0;have qZ:(j:Int)<(k:Int):=ω;have W:Hid _:=And.intro ((hA j u).later V.out) (hn j u);clear I H C hA hn;have F:=c18 (neg:=ng j) (cap:=cap j) (e:=e j) (W.out.1.later ((kH9 wr.heap.size wr).alloc lR (.cells (Nu (ng j) (ao j) (n j) (cap j) (e j)) 50))) W.out.2;generalize Y:okN (ng j) (n j) (z j) (e j)=qQ at *;have T:Hid _:=Y;clear Y
   go_wp2_with fail;refine F.mono ?_;rintro r w1 ⟨rfl,D⟩;have L:Hid (Bw w w1):=by
    rw[D];have H:=V.out.size;exact(V.out.alloc H _).alloc (by simp;omega) _
   clear D F;cases qQ
   ·go_wp2
    go_ret;refine⟨kU7 Ending.returned (kU7 Value.bool ?_),L.out⟩
    rw[HA.out,kF1];intro h;have:=h j u
    rw[T.out] at this;exact absurd this δ
   ·go_wp2;exact⟨⟨j+1,ω,by simp,L,(fun i hi=>by
     by_cases e1:i=j
     ·subst e1;exact T.out
     ·exact hok.out i ω:∀ i,i<j+1→okN (ng i) (n i) (z i) (e i)=true)⟩,by simp[intOf];omega⟩
  ·obtain rfl:j=k:=ω;clear I H C hA hn
   go_wp2
   go_ret;refine⟨kU7 Ending.returned (kU7 Value.bool ?_),V.out⟩
   rw[HA.out,kF2 hok.out]
theorem qQ6 {P:Program} {H:Func} {p u:Tmp} {J:TypeId} (h:H.results = #[.cell p J,.tmp u]) (Y:Array Value) (w:World) (g:Nat) (t:TypeId) (cs:Array Value) (V:Nat×Nat) (d:TypeDesc)
  (D:Y.getD p undef=.pointer (some ⟨g,0,none⟩)) (T:w.heap[g]?=some (.cells cs t V))
  (F:P.underlying J=some d) (L:(match d with | .struct _ | .array _ _=>true|_=>false)=true) (hi:(P.info? J).map (·.size)=some cs.size) :
  (results H Y).run P w=.ok (.tuple #[.agg cs,Y.getD u undef]) w:=by
 rw[results_cell_tmp h,D];simp[asAddr,run_loadVar_row w g t J cs V d T F L hi,Result.andThen]
theorem zM7 (w:World) (a b c:Obj):(((w.alloc a).alloc b).alloc c).heap[w.heap.size+1]?=some b:=by
 rw[Below.heap_alloc _ _ _ (by simp)]
 have:=kB7 (w.alloc a) b
 simpa using this
def Nil:Value:=NumV false (.slice none 0 0) 0
theorem c63 {neg:Bool} {ao:Option Addr} {n cap z:Nat} {e:Int} {w:World} (h:At w ao n z) (V:n≤35184372088832) :
  Ca 200 #[.agg (Nu neg ao n cap e)] w fun r w' =>
   r=.returned (.tuple #[if okN neg n z e then .agg (Nu neg ao n cap e) else Nil,iV (if okN neg n z e then 0 else 2)])∧Bw w w':=by
 have Y:Below w.heap.size w ((w.alloc (.cells (Nu neg ao n cap e) 50)).alloc (.cells (Nu false none 0 0 0) 50)):=(bR.alloc lR _).alloc (by simp) _
 have u:=c18 (neg:=neg) (cap:=cap) (e:=e) (h.later Y) V;cases hok:okN neg n z e
 ·rw[hok] at u;have H:Hid _:=Y;clear hok Y h
  go_enter Tryz.func200,Tryz.ntmps200
  go_wp2_with fail;refine u.mono ?_;rintro r J ⟨rfl,rfl⟩;clear u
  go_wp2;refine kB8 (qQ6 rfl _ _ (w.heap.size+1) 50 (Nu false none 0 0 0) (0,0) _ rfl (zM7 _ _ _ _) Tryz.underlying50 rfl Tryz.info50) rfl ?_;exact⟨rfl,((bR.alloc lR _).alloc (by simp) _).alloc (by simp;omega) _⟩
 ·rw[hok] at u;have H:Hid _:=Y;clear hok Y h
  go_enter Tryz.func200,Tryz.ntmps200
  go_wp2_with fail;refine u.mono ?_;rintro r J ⟨rfl,rfl⟩;clear u
  go_wp2;refine kB8 (qQ6 rfl _ _ (w.heap.size+1) 50 (Nu neg ao n cap e) (0,0) _ rfl (zM7 _ _ _ _) Tryz.underlying50 rfl Tryz.info50) rfl ?_;exact⟨rfl,((bR.alloc lR _).alloc (by simp) _).alloc (by simp;omega) _⟩
def Ct (W:World) (f:Nat) (args:Array Value) (x:Nat):Prop :=
 ∀ w',Bw W w'→Calls Tryz.prog f args w' fun r w''=>∃ v,r=.returned v∧Own w'' W.heap.size v x∧Bw W w''∧Bw w' w''
theorem yT5 {W:World} {v:Value} {x k:Nat} (h:Is W v x) (hx:dlen x≤35184372088832) (H:k≤1099511627776):Ct W 182 #[v,iV k] (x*2^k):=fun w' Y =>
 (c109 (h.later Y) k hx H).mono fun r J ⟨v,e,V,u⟩=>⟨v,e,V.mono Y.size,Y.trans (u.mono Y.size),u⟩
theorem c99_1 (na nb:Bool) (ua F:Option Addr) (un V uc H x y:Nat) (ea:Int) (u:Nat) (w:World)
  (h1:∀ W,Bw w W→Ct W 182 #[.slice ua un uc,.int .i64 0] x) (h2:∀ W,Bw w W→Ct W 182 #[.slice F V H,.int .i64 u] (y*2^u)) (qU : -4000000≤ea) (qX:ea≤4000000) (qV:u≤8000000) :
  Calls Tryz.prog 158 #[NumV na (.slice ua un uc) ea,NumV nb (.slice F V H) (ea+u)] w fun r w'=>∃ p q,r=.returned (.tuple #[p,q,.int .i64 ea])∧Own w' w.heap.size p x∧Own w' w.heap.size q (y*2^u)∧Bw w w':=by
 obtain⟨W,T⟩:=eE ((w.alloc (.cells #[.bool na,.slice ua un uc,.int .i64 ea] 50)).alloc (.cells #[.bool nb,.slice F V H,.int .i64 (ea+u)] 50));have J:Bw w W:=by rw[T];exact(bR.alloc lR _).alloc (by simp) _
 have qQ:W.heap[w.heap.size]?=some (.cells #[.bool na,.slice ua un uc,.int .i64 ea] 50 (0,0)):=by
  rw[T,Below.heap_alloc _ _ _ (by simp)];exact kB7 _ _
 have I:W.heap[w.heap.size+1]?=some (.cells #[.bool nb,.slice F V H,.int .i64 (ea+u)] 50 (0,0)):=by
  have:=kB7 (w.alloc (.cells #[.bool na,.slice ua un uc,.int .i64 ea] 50)) (.cells #[.bool nb,.slice F V H,.int .i64 (ea+u)] 50)
  rw[T];simpa using this
 have qJ:W.heap.size=w.heap.size+1+1:=by rw[T];simp
 have k1:=h1 W J;have k2:=h2 W J;have Y:Hid (Bw w W):=J;have D:Hid (∀ w',Bw W w'→(w'.cell? ⟨w.heap.size,1,none⟩=some (.slice ua un uc)∧w'.cell? ⟨w.heap.size,2,none⟩=some (.int .i64 ea))∧w'.cell? ⟨w.heap.size+1,1,none⟩=some (.slice F V H)∧w'.cell? ⟨w.heap.size+1,2,none⟩=some (.int .i64 (ea+u))):=by
  intro w' hB;have a:=(qQ3 (qQ0 qQ hB ω)).1;have b:=(qQ3 (qQ0 I hB ω)).1;exact⟨⟨a.2.1,a.2.2⟩,b.2.1,b.2.2⟩
 unfold NumV;have C:IntKind.i64.wrap 0=0:=by decide
 have L:IntKind.i64.wrap (ea+(u:Int) - ea)=(u:Int):=by rw[kB5];omega
 clear h1 h2 qQ I qJ J
 go_enter Tryz.func158,Tryz.ntmps158
 go_wp2;rw[←T];clear T;obtain⟨⟨c1,c2⟩,c3,c4⟩:=D.out W bR;have qK:Bw W W:=kH9 _ _
 go_region_held3 (fun w'=>((w'.cell? ⟨w.heap.size,1,none⟩=some (.slice ua un uc)∧w'.cell? ⟨w.heap.size,2,none⟩=some (.int .i64 ea))∧w'.cell? ⟨w.heap.size+1,1,none⟩=some (.slice F V H)∧w'.cell? ⟨w.heap.size+1,2,none⟩=some (.int .i64 (ea+u)))∧Bw W w') (first|assumption|exact⟨⟨⟨c1,c2⟩,c3,c4⟩,qK⟩|(refine⟨D.out _ ?_,?_⟩ <;> first|assumption|exact Below.drew (by assumption)))
  (first|(go_at_call_of 182 (Value.slice ua un uc);(try simp only[C]);refine(k1 _ ?_).mono ?_;(first|assumption|exact Below.drew (by assumption));rintro r w2 ⟨p,rfl,hp,qX,qV⟩)|(go_at_call_of 182 (Value.slice F V H);(try simp only[L]);refine(k2 _ ?_).mono ?_;(first|assumption|exact Below.drew (by assumption));rintro r w3 ⟨q,rfl,hq,qY,qZ⟩))
 have HP:Hid (Own w3 w.heap.size p x∧Own w3 w.heap.size q (y*2^u)∧Bw w w3):=⟨(hp.later qZ).mono Y.out.size,hq.mono Y.out.size,Y.out.trans (qY.mono Y.out.size)⟩;clear hp hq qX qY qZ k1 k2 D Y c1 c2 c3 c4 qK C L
 go_wp2
 go_ret3
 exact⟨p,q,rfl,HP.out⟩
theorem c99_2 (na nb:Bool) (ua F:Option Addr) (un V uc H x y:Nat) (eb:Int) (u:Nat) (w:World)
  (h1:∀ W,Bw w W→Ct W 182 #[.slice ua un uc,.int .i64 u] (x*2^u)) (h2:∀ W,Bw w W→Ct W 182 #[.slice F V H,.int .i64 0] y) (qU : -4000000≤eb) (qX:eb≤4000000) (qV:u≤8000000) (qG:0<u) :
  Calls Tryz.prog 158 #[NumV na (.slice ua un uc) (eb+u),NumV nb (.slice F V H) eb] w fun r w'=>∃ p q,r=.returned (.tuple #[p,q,.int .i64 eb])∧Own w' w.heap.size p (x*2^u)∧Own w' w.heap.size q y∧Bw w w':=by
 obtain⟨W,T⟩:=eE ((w.alloc (.cells #[.bool na,.slice ua un uc,.int .i64 (eb+u)] 50)).alloc (.cells #[.bool nb,.slice F V H,.int .i64 eb] 50));have J:Bw w W:=by rw[T];exact(bR.alloc lR _).alloc (by simp) _
 have qQ:W.heap[w.heap.size]?=some (.cells #[.bool na,.slice ua un uc,.int .i64 (eb+u)] 50 (0,0)):=by
  rw[T,Below.heap_alloc _ _ _ (by simp)];exact kB7 _ _
 have I:W.heap[w.heap.size+1]?=some (.cells #[.bool nb,.slice F V H,.int .i64 eb] 50 (0,0)):=by
  have:=kB7 (w.alloc (.cells #[.bool na,.slice ua un uc,.int .i64 (eb+u)] 50)) (.cells #[.bool nb,.slice F V H,.int .i64 eb] 50)
  rw[T];simpa using this
 have qJ:W.heap.size=w.heap.size+1+1:=by rw[T];simp
 have k1:=h1 W J;have k2:=h2 W J;have Y:Hid (Bw w W):=J;have D:Hid (∀ w',Bw W w'→(w'.cell? ⟨w.heap.size,1,none⟩=some (.slice ua un uc)∧w'.cell? ⟨w.heap.size,2,none⟩=some (.int .i64 (eb+u)))∧w'.cell? ⟨w.heap.size+1,1,none⟩=some (.slice F V H)∧w'.cell? ⟨w.heap.size+1,2,none⟩=some (.int .i64 eb)):=by
  intro w' hB;have a:=(qQ3 (qQ0 qQ hB ω)).1;have b:=(qQ3 (qQ0 I hB ω)).1;exact⟨⟨a.2.1,a.2.2⟩,b.2.1,b.2.2⟩
 unfold NumV;have C:IntKind.i64.wrap 0=0:=by decide
 have L:IntKind.i64.wrap (eb+(u:Int) - eb)=(u:Int):=by rw[kB5];omega
 clear h1 h2 qQ I qJ J
 go_enter Tryz.func158,Tryz.ntmps158
 go_wp2;rw[←T];clear T;obtain⟨⟨c1,c2⟩,c3,c4⟩:=D.out W bR;have qK:Bw W W:=kH9 _ _
 go_region_held3 (fun w'=>((w'.cell? ⟨w.heap.size,1,none⟩=some (.slice ua un uc)∧w'.cell? ⟨w.heap.size,2,none⟩=some (.int .i64 (eb+u)))∧w'.cell? ⟨w.heap.size+1,1,none⟩=some (.slice F V H)∧w'.cell? ⟨w.heap.size+1,2,none⟩=some (.int .i64 eb))∧Bw W w') (first|assumption|exact⟨⟨⟨c1,c2⟩,c3,c4⟩,qK⟩|(refine⟨D.out _ ?_,?_⟩ <;> first|assumption|exact Below.drew (by assumption)))
  (first|(go_at_call_of 182 (Value.slice ua un uc);(try simp only[C]);refine(k1 _ ?_).mono ?_;(first|assumption|exact Below.drew (by assumption));rintro r w2 ⟨p,rfl,hp,qX,qV⟩)|(go_at_call_of 182 (Value.slice F V H);(try simp only[L]);refine(k2 _ ?_).mono ?_;(first|assumption|exact Below.drew (by assumption));rintro r w3 ⟨q,rfl,hq,qY,qZ⟩))
 have HP:Hid (Own w3 w.heap.size p (x*2^u)∧Own w3 w.heap.size q y∧Bw w w3):=⟨(hp.later qZ).mono Y.out.size,hq.mono Y.out.size,Y.out.trans (qY.mono Y.out.size)⟩;clear hp hq qX qY qZ k1 k2 D Y c1 c2 c3 c4 qK C L
 go_wp2
 go_ret3
 exact⟨p,q,rfl,HP.out⟩
theorem c99 {na nb:Bool} {u v:Value} {x y:Nat} {ea eb:Int} {w:World} (F:Is w u x) (V:Is w v y) (hx:dlen x≤1000000) (I:dlen y≤1000000) (C : -4000000≤ea∧ea≤4000000) (L : -4000000≤eb∧eb≤4000000) :
  Ca 158 #[NumV na u ea,NumV nb v eb] w fun r w'=>∃ p q,r=.returned (.tuple #[p,q,iV (min ea eb)])∧Own w' w.heap.size p (x*2^(ea - min ea eb).toNat)∧Own w' w.heap.size q (y*2^(eb - min ea eb).toNat)∧Bw w w':=by
 have H:=F;have J:=V;obtain⟨ua,uc,rfl,-,-,-⟩:=H;obtain⟨T,D,rfl,-,-,-⟩:=J;by_cases h:ea≤eb
 ·obtain⟨k,rfl⟩:∃ k:Nat,eb=ea+k:=⟨(eb - ea).toNat,ω⟩;rw[show min ea (ea+(k:Int))=ea by omega,show(ea - ea).toNat=0 by omega,show(ea+(k:Int) - ea).toNat=k by omega,kN7,kM1]
  refine c99_1 na nb ua T _ _ uc D x y ea k w (fun W Y=>?_) (fun W Y=>yT5 (V.later Y) ω ω) C.1 C.2 ω;have:=yT5 (k:=0) (F.later Y) ω ω
  rwa [kN7,kM1] at this
 ·obtain⟨k,rfl⟩:∃ k:Nat,ea=eb+k:=⟨(ea - eb).toNat,ω⟩;rw[show min (eb+(k:Int)) eb=eb by omega,show(eb - eb).toNat=0 by omega,show(eb+(k:Int) - eb).toNat=k by omega,kN7,kM1]
  refine c99_2 na nb ua T _ _ uc D x y eb k w (fun W Y=>yT5 (F.later Y) ω ω) (fun W Y=>?_) L.1 L.2 ω ω;have:=yT5 (k:=0) (V.later Y) ω ω
  rwa [kN7,kM1] at this
theorem qK9 {w W:World} (a b c:Obj) (u:W=((w.alloc a).alloc b).alloc c) :
  W.heap[w.heap.size]?=some a∧W.heap[w.heap.size+1]?=some b∧W.heap[w.heap.size+1+1]?=some c∧W.heap.size=w.heap.size+1+1+1∧Bw w W:=by
 subst u;refine⟨?_,zM7 _ _ _ _,?_,by simp,((bR.alloc lR _).alloc (by simp) _).alloc (by simp;omega) _⟩
 ·rw[Below.heap_alloc _ _ _ (by simp;omega),Below.heap_alloc _ _ _ (by simp)];exact kB7 _ _
 ·have:=kB7 ((w.alloc a).alloc b) c
  simpa using this
theorem Nrm.shape {w:World} {u:Nat} {a:Value} {neg:Bool} {x:Nat} {e:Int} (h:Nrm w u a neg x e):∃ s ao n cap ex,a=.agg (Nu s ao n cap ex):=by
 rcases h with ⟨_,rfl⟩|⟨_,v,rfl,Y⟩
 ·exact⟨_,_,_,_,_,rfl⟩
 ·obtain⟨ao,cap,rfl,-,-,-⟩:=Y.is;exact⟨_,_,_,_,_,rfl⟩
theorem Nrm.mono {w:World} {Y u:Nat} {a:Value} {neg:Bool} {x:Nat} {e:Int} (h:Nrm w Y a neg x e) (V:u≤Y):Nrm w u a neg x e:=by
 rcases h with h|⟨F,v,H,J⟩
 ·exact .inl h
 ·exact .inr ⟨F,v,H,J.mono V⟩
theorem Nrm.store {w:World} {u:Nat} {a:Value} {neg:Bool} {x:Nat} {e:Int} (h:Nrm w u a neg x e) {g:Nat} (J:g<u) (p q r:Value):Nrm (((w.setCell ⟨g,0,none⟩ p).setCell ⟨g,1,none⟩ q).setCell ⟨g,2,none⟩ r) u a neg x e:=by
 rcases h with h|⟨H,v,V,Y⟩
 ·exact .inl h
 ·exact .inr ⟨H,v,V,qU6 Y J _ _ _⟩
theorem c87_a (na nb:Bool) (ua D:Option Addr) (uc H F y:Nat) (ea eb:Int) (w:World) (hT:Tab32 w) (h2:Is w (.slice D H F) y) (hy:dlen y≤1000000) (hb : -4000000≤eb∧eb≤4000000) :
  Ca 220 #[NumV na (.slice ua 0 uc) ea,NumV nb (.slice D H F) eb] w fun r w'=>∃ a,r=.returned a∧Nrm w' w.heap.size a nb y eb∧Bw w w':=by
 obtain⟨W,T⟩:=eE (((w.alloc (.cells (Nu na ua 0 uc ea) 50)).alloc (.cells (Nu nb D H F eb) 50)).alloc (.cells (Nu false none 0 0 0) 50));obtain⟨hA,C,hC,J,u⟩:=qK9 _ _ _ T;have Y:=c56 (neg:=nb) (e:=eb) (h2.later u) ω (hT.later u) ω;have HH:Hid _:=aI3 hC J u;clear h2 hT hA C hC J u;unfold NumV
 go_enter Tryz.func220,Tryz.ntmps220
 go_wp2_with fail;rw[←T];clear T;refine Y.mono ?_;rintro r w3 ⟨a,rfl,L,I⟩;obtain⟨s,ao,n,cap,ex,rfl⟩:=L.shape;have V:Hid (Hn w3 (w.heap.size+1+1) false none 0 0 0 50):=qQ0 HH.out.1 I (by have:=HH.out.2.1;omega)
 obtain⟨⟨a1,a2,a3⟩,a4,a5,a6⟩:=qQ3 V.out;have HN:Hid _:=And.intro L I;clear Y L I
 go_wp2;refine kB8 (kM2 rfl _ _ (w.heap.size+1+1) 50 (Nu s ao n cap ex) (0,0) _ rfl (qX8 _ _ _ V.out) Tryz.underlying50 rfl Tryz.info50) rfl ?_;obtain⟨b1,b2,b3⟩:=HH.out;exact⟨_,rfl,(HN.out.1.store ω _ _ _).mono ω,qQ4 (b3.trans (HN.out.2.mono b3.size)) ω _ _ _⟩
theorem c87_b (na nb:Bool) (ua I:Option Addr) (un uc C x:Nat) (ea eb:Int) (w:World) (hT:Tab32 w) (h2:Is w (.slice ua un uc) x) (hy:dlen x≤1000000) (hb : -4000000≤ea∧ea≤4000000) (qQ:((un:Int)==0)=false) :
  Ca 220 #[NumV na (.slice ua un uc) ea,NumV nb (.slice I 0 C) eb] w fun r w'=>∃ a,r=.returned a∧Nrm w' w.heap.size a na x ea∧Bw w w':=by
 obtain⟨W,H⟩:=eE (((w.alloc (.cells (Nu na ua un uc ea) 50)).alloc (.cells (Nu nb I 0 C eb) 50)).alloc (.cells (Nu false none 0 0 0) 50));obtain⟨hA,D,hC,J,u⟩:=qK9 _ _ _ H;have Y:=c56 (neg:=na) (e:=ea) (h2.later u) ω (hT.later u) ω;have L:Hid _:=aI3 hC J u;clear h2 hT hA D hC J u;unfold NumV
 go_enter Tryz.func220,Tryz.ntmps220
 go_wp2_with fail;rw[←H];clear H;refine Y.mono ?_;rintro r w3 ⟨a,rfl,F,T⟩;obtain⟨s,ao,n,cap,ex,rfl⟩:=F.shape;have V:Hid (Hn w3 (w.heap.size+1+1) false none 0 0 0 50):=qQ0 L.out.1 T (by have:=L.out.2.1;omega)
 obtain⟨⟨a1,a2,a3⟩,a4,a5,a6⟩:=qQ3 V.out;have HN:Hid _:=And.intro F T;clear Y F T
 go_wp2;refine kB8 (kM2 rfl _ _ (w.heap.size+1+1) 50 (Nu s ao n cap ex) (0,0) _ rfl (qX8 _ _ _ V.out) Tryz.underlying50 rfl Tryz.info50) rfl ?_;obtain⟨b1,b2,b3⟩:=L.out;exact⟨_,rfl,(HN.out.1.store ω _ _ _).mono ω,qQ4 (b3.trans (HN.out.2.mono b3.size)) ω _ _ _⟩
theorem c87_c (na:Bool) (ua va:Option Addr) (un uc vn vc X Y:Nat) (ea eb e:Int) (w:World) (hT:Tab32 w) (hX:dlen (X+Y)≤1000000) (qM:dlen X≤1000000) (qN:dlen Y≤1000000) (he : -4000000≤e∧e≤4000000) (qT:((un:Int)==0)=false) (qR:((vn:Int)==0)=false)
  (qH:∀ W,Bw w W→Ca 158 #[NumV na (.slice ua un uc) ea,NumV na (.slice va vn vc) eb] W fun r w'=>∃ p q,r=.returned (.tuple #[p,q,iV e])∧Own w' W.heap.size p X∧Own w' W.heap.size q Y∧Bw W w') :
  Ca 220 #[NumV na (.slice ua un uc) ea,NumV na (.slice va vn vc) eb] w fun r w'=>∃ a,r=.returned a∧Nrm w' w.heap.size a na (X+Y) e∧Bw w w':=by
 obtain⟨W,hW⟩:=eE (((w.alloc (.cells (Nu na ua un uc ea) 50)).alloc (.cells (Nu na va vn vc eb) 50)).alloc (.cells (Nu false none 0 0 0) 50));obtain⟨hA,qG,hC,qX,u⟩:=qK9 _ _ _ hW;have qZ:=qH W u;have HH:Hid ((Hn W w.heap.size na ua un uc ea 50∧Hn W (w.heap.size+1) na va vn vc eb 50∧Hn W (w.heap.size+1+1) false none 0 0 0 50)∧W.heap.size=w.heap.size+1+1+1∧Bw w W∧Tab32 W):=⟨⟨hA,qG,hC⟩,qX,u,hT.later u⟩;unfold NumV at *;clear hT hA qG hC qX u qH
 go_enter Tryz.func220,Tryz.ntmps220
 go_wp2_with fail;rw[←hW];clear hW;refine qZ.mono ?_;rintro r J ⟨p,q,rfl,hp,hq,V⟩;obtain⟨⟨h1,h2,h3⟩,hs,u,qV⟩:=HH.out;obtain⟨⟨a0,a1,a2⟩,-⟩:=qQ3 (qQ0 h1 V ω);obtain⟨⟨b0,b1,b2⟩,-⟩:=qQ3 (qQ0 h2 V ω);have D:Hid (Hn J (w.heap.size+1+1) false none 0 0 0 50∧Bw W J):=⟨qQ0 h3 V ω,V⟩;have T:Ca 219 #[p,q] J.drew fun r w'=>∃ v,r=.returned v∧Own w' J.heap.size v (X+Y)∧Bw J w' :=
  (c122 (w:=J.drew) hp.is hq.is ω ω).mono fun r w' ⟨v,e1,o1,o2⟩=>⟨v,e1,o1,Below.trans (b:=J.drew) bR.drew o2⟩
 have H:∀ w',Bw J w'→w'.cell? ⟨w.heap.size,0,none⟩=some (.bool na):=fun w' hb=>(hb.cell (World.block_lt_of_cell? _ _ a0)).trans a0;have HK:Hid (∀ w',Bw J w'→w'.cell? ⟨w.heap.size,0,none⟩=some (.bool na)):=H;have qY:∀ v5 I,Own I J.heap.size v5 (X+Y)→Bw J I→Ca 153 #[.bool na,v5,iV e] I fun r w'=>∃ s ao n cap ex,r=.returned (.agg (Nu s ao n cap ex)) ∧
   Hid (Nrm w' I.heap.size (.agg (Nu s ao n cap ex)) na (X+Y) e∧J.heap.size≤I.heap.size)∧Bw J w'∧Hid (Hn w' (w.heap.size+1+1) false none 0 0 0 50) ∧
   (w'.cell? ⟨w.heap.size+1+1,0,none⟩=some (.bool false)∧w'.cell? ⟨w.heap.size+1+1,1,none⟩=some (.slice none 0 0)∧w'.cell? ⟨w.heap.size+1+1,2,none⟩=some (iV 0))∧(w'.frozen? ⟨w.heap.size+1+1,0,none⟩=false∧w'.frozen? ⟨w.heap.size+1+1,1,none⟩=false∧w'.frozen? ⟨w.heap.size+1+1,2,none⟩=false):=by
  intro v5 I ho hb;refine(c56 ho.is ω ((qV.later V).later hb) ω).mono ?_
  rintro r w6 ⟨a,rfl,hN,F⟩;obtain⟨s,ao,n,cap,ex,rfl⟩:=hN.shape;have C:Bw J w6:=hb.trans (F.mono hb.size);have L:=qQ0 D.out.1 C (by have:=D.out.2.size;omega)
  obtain⟨f1,f2⟩:=qQ3 L;exact⟨s,ao,n,cap,ex,rfl,⟨hN,hb.size⟩,C,L,f1,f2⟩
 have qL:(na==na)=true:=by simp
 clear h1 h2 h3 hp hq V qZ hs u qV H hX qM qN
 go_wp2
 go_region_held3 (fun w'=>w'.cell? ⟨w.heap.size,0,none⟩=some (.bool na)) (first|(with_reducible assumption)|(refine HK.out _ ?_;with_reducible assumption)|(rw[World.cell?_setCell_other _ _ _ _ (by simp),World.cell?_setCell_other _ _ _ _ (by simp),World.cell?_setCell_other _ _ _ _ (by simp)];refine HK.out _ ?_;with_reducible assumption)|go_keep)
  (first|(go_at_call 219;refine T.mono ?_;rintro r I ⟨v5,rfl,qK,qJ⟩)|(go_at_call 153;refine(qY _ _ qK qJ).mono ?_;rintro r w6 ⟨s6,qD,n6,qF,qP,rfl,qU,F,qQ,⟨x1,x2,x3⟩,x4,x5,x6⟩))
 have HF:Hid (Bw J w6):=F;clear qK qJ F qY T x1 x2 x3 x4 x5 x6 a0 a1 a2 b0 b1 b2 HK
 go_wp2;refine kB8 (kM2 rfl _ _ (w.heap.size+1+1) 50 (Nu s6 qD n6 qF qP) (0,0) _ rfl (qX8 _ _ _ qQ.out) Tryz.underlying50 rfl Tryz.info50) rfl ?_;obtain⟨-,hs,u,-⟩:=HH.out;have qB:=D.out.2.size;have qS:=qU.out.2;exact⟨_,rfl,(qU.out.1.store ω _ _ _).mono ω,qQ4 (u.trans ((D.out.2.trans (HF.out.mono qB)).mono u.size)) ω _ _ _⟩
theorem c87_d (na nb:Bool) (ua va:Option Addr) (un uc vn vc X Y:Nat) (ea eb e:Int) (w:World) (hT:Tab32 w) (qN:X<Y) (qT:(na==nb)=false) (qP:dlen X≤1000000) (qM:dlen Y≤1000000) (he : -4000000≤e∧e≤4000000) (qW:((un:Int)==0)=false) (qL:((vn:Int)==0)=false)
  (qH:∀ W,Bw w W→Ca 158 #[NumV na (.slice ua un uc) ea,NumV nb (.slice va vn vc) eb] W fun r w'=>∃ p q,r=.returned (.tuple #[p,q,iV e])∧Own w' W.heap.size p X∧Own w' W.heap.size q Y∧Bw W w') :
  Ca 220 #[NumV na (.slice ua un uc) ea,NumV nb (.slice va vn vc) eb] w fun r w'=>∃ a,r=.returned a∧Nrm w' w.heap.size a nb (Y - X) e∧Bw w w':=by
 obtain⟨W,hW⟩:=eE (((w.alloc (.cells (Nu na ua un uc ea) 50)).alloc (.cells (Nu nb va vn vc eb) 50)).alloc (.cells (Nu false none 0 0 0) 50));obtain⟨hA,qG,hC,qX,u⟩:=qK9 _ _ _ hW;have qZ:=qH W u;have HH:Hid ((Hn W w.heap.size na ua un uc ea 50∧Hn W (w.heap.size+1) nb va vn vc eb 50∧Hn W (w.heap.size+1+1) false none 0 0 0 50)∧W.heap.size=w.heap.size+1+1+1∧Bw w W∧Tab32 W):=⟨⟨hA,qG,hC⟩,qX,u,hT.later u⟩;unfold NumV at *;clear hT hA qG hC qX u qH
 go_enter Tryz.func220,Tryz.ntmps220
 go_wp2_with fail;rw[←hW];clear hW;refine qZ.mono ?_;rintro r J ⟨p,q,rfl,hp,hq,H⟩;obtain⟨⟨h1,h2,h3⟩,hs,u,qV⟩:=HH.out;obtain⟨⟨a0,a1,a2⟩,-⟩:=qQ3 (qQ0 h1 H ω);obtain⟨⟨b0,b1,b2⟩,-⟩:=qQ3 (qQ0 h2 H ω);have T:Hid (Hn J (w.heap.size+1+1) false none 0 0 0 50∧Bw W J):=⟨qQ0 h3 H ω,H⟩;have L:=c129 hp.is hq.is ω ω;have qC:cmpI (X:Int) (Y:Int)<0:=by unfold cmpI;rw[kU6 ω];omega
 generalize cmpI (X:Int) (Y:Int)=cv at *;have V:∀ dd,Ca 257 #[q,p] (J.drewN dd).drew fun r w'=>∃ v,r=.returned v∧Own w' J.heap.size v (Y - X)∧Bw J w':=fun dd =>
  (c138 (w:=(J.drewN dd).drew) hq.is hp.is ω ω).mono fun r w' ⟨v,e1,o1,o2⟩=>⟨v,e1,o1,Below.trans (b:=(J.drewN dd).drew) ⟨rfl,rfl,rfl,kH8 _,fun _ _=>rfl⟩ o2⟩
 have F:∀ w',Bw J w'→w'.cell? ⟨w.heap.size+1,0,none⟩=some (.bool nb):=fun w' hb=>(hb.cell (World.block_lt_of_cell? _ _ b0)).trans b0;have HK:Hid (∀ w',Bw J w'→w'.cell? ⟨w.heap.size+1,0,none⟩=some (.bool nb)):=F;have qY:∀ v5 w5,Own w5 J.heap.size v5 (Y - X)→Bw J w5→Ca 153 #[.bool nb,v5,iV e] w5 fun r w'=>∃ s ao n cap ex,r=.returned (.agg (Nu s ao n cap ex)) ∧
   Hid (Nrm w' w5.heap.size (.agg (Nu s ao n cap ex)) nb (Y - X) e∧J.heap.size≤w5.heap.size)∧Bw J w'∧Hid (Hn w' (w.heap.size+1+1) false none 0 0 0 50) ∧
   (w'.cell? ⟨w.heap.size+1+1,0,none⟩=some (.bool false)∧w'.cell? ⟨w.heap.size+1+1,1,none⟩=some (.slice none 0 0)∧w'.cell? ⟨w.heap.size+1+1,2,none⟩=some (iV 0))∧(w'.frozen? ⟨w.heap.size+1+1,0,none⟩=false∧w'.frozen? ⟨w.heap.size+1+1,1,none⟩=false∧w'.frozen? ⟨w.heap.size+1+1,2,none⟩=false):=by
  intro v5 w5 ho hb;refine(c56 ho.is (kF8 (qZ5 (Nat.sub_le ..)) ω) ((qV.later H).later hb) ω).mono ?_
  rintro r w6 ⟨a,rfl,hN,D⟩;obtain⟨s,ao,n,cap,ex,rfl⟩:=hN.shape;have I:Bw J w6:=hb.trans (D.mono hb.size);have C:=qQ0 T.out.1 I (by have:=T.out.2.size;omega)
  obtain⟨f1,f2⟩:=qQ3 C;exact⟨s,ao,n,cap,ex,rfl,⟨hN,hb.size⟩,I,C,f1,f2⟩
 clear h1 h2 h3 hp hq H qZ hs u qV F qP qM qN
 go_wp2_with fail;refine L.mono ?_;rintro r w7 ⟨rfl,dd,rfl⟩;have V:=V dd;clear L;have qE:Hid (∀ w',Bw J w'→w'.cell? ⟨w.heap.size+1,0,none⟩=some (.bool nb)):=HK.out;have z0:(J.drewN dd).cell? ⟨w.heap.size+1,0,none⟩=some (.bool nb):=b0
 go_wp2
 go_region_held3 (fun w'=>w'.cell? ⟨w.heap.size+1,0,none⟩=some (.bool nb)) (first|(with_reducible assumption)|(refine HK.out _ ?_;with_reducible assumption)|(rw[World.cell?_setCell_other _ _ _ _ (by simp),World.cell?_setCell_other _ _ _ _ (by simp),World.cell?_setCell_other _ _ _ _ (by simp)];refine HK.out _ ?_;with_reducible assumption)|go_keep)
  (first|(go_at_call 257;refine V.mono ?_;rintro r w5 ⟨v5,rfl,qK,qJ⟩)|(go_at_call 153;refine(qY _ _ qK qJ).mono ?_;rintro r w6 ⟨s6,qS,n6,qF,qD,rfl,qU,D,qQ,⟨x1,x2,x3⟩,x4,x5,x6⟩))
 have HF:Hid (Bw J w6):=D;clear qK qJ D qY V x1 x2 x3 x4 x5 x6 a0 a1 a2 b0 b1 b2 HK
 go_wp2;refine kB8 (kM2 rfl _ _ (w.heap.size+1+1) 50 (Nu s6 qS n6 qF qD) (0,0) _ rfl (qX8 _ _ _ qQ.out) Tryz.underlying50 rfl Tryz.info50) rfl ?_;obtain⟨-,hs,u,-⟩:=HH.out;have qB:=T.out.2.size;have qR:=qU.out.2;exact⟨_,rfl,(qU.out.1.store ω _ _ _).mono ω,qQ4 (u.trans ((T.out.2.trans (HF.out.mono qB)).mono u.size)) ω _ _ _⟩
theorem c87_e (na nb:Bool) (ua va:Option Addr) (un uc vn vc X Y:Nat) (ea eb e:Int) (w:World) (hT:Tab32 w) (qN:Y≤X) (qT:(na==nb)=false) (qP:dlen X≤1000000) (qM:dlen Y≤1000000) (he : -4000000≤e∧e≤4000000) (qW:((un:Int)==0)=false) (qL:((vn:Int)==0)=false)
  (qH:∀ W,Bw w W→Ca 158 #[NumV na (.slice ua un uc) ea,NumV nb (.slice va vn vc) eb] W fun r w'=>∃ p q,r=.returned (.tuple #[p,q,iV e])∧Own w' W.heap.size p X∧Own w' W.heap.size q Y∧Bw W w') :
  Ca 220 #[NumV na (.slice ua un uc) ea,NumV nb (.slice va vn vc) eb] w fun r w'=>∃ a,r=.returned a∧Nrm w' w.heap.size a na (X - Y) e∧Bw w w':=by
 obtain⟨W,hW⟩:=eE (((w.alloc (.cells (Nu na ua un uc ea) 50)).alloc (.cells (Nu nb va vn vc eb) 50)).alloc (.cells (Nu false none 0 0 0) 50));obtain⟨hA,qG,hC,qX,u⟩:=qK9 _ _ _ hW;have qZ:=qH W u;have HH:Hid ((Hn W w.heap.size na ua un uc ea 50∧Hn W (w.heap.size+1) nb va vn vc eb 50∧Hn W (w.heap.size+1+1) false none 0 0 0 50)∧W.heap.size=w.heap.size+1+1+1∧Bw w W∧Tab32 W):=⟨⟨hA,qG,hC⟩,qX,u,hT.later u⟩;unfold NumV at *;clear hT hA qG hC qX u qH
 go_enter Tryz.func220,Tryz.ntmps220
 go_wp2_with fail;rw[←hW];clear hW;refine qZ.mono ?_;rintro r J ⟨p,q,rfl,hp,hq,H⟩;obtain⟨⟨h1,h2,h3⟩,hs,u,qV⟩:=HH.out;obtain⟨⟨a0,a1,a2⟩,-⟩:=qQ3 (qQ0 h1 H ω);obtain⟨⟨b0,b1,b2⟩,-⟩:=qQ3 (qQ0 h2 H ω);have T:Hid (Hn J (w.heap.size+1+1) false none 0 0 0 50∧Bw W J):=⟨qQ0 h3 H ω,H⟩;have L:=c129 hp.is hq.is ω ω;have qC:¬ cmpI (X:Int) (Y:Int)<0:=by unfold cmpI;rw[kU5 ω];split <;> omega
 generalize cmpI (X:Int) (Y:Int)=cv at *;have V:∀ dd,Ca 257 #[p,q] (J.drewN dd).drew fun r w'=>∃ v,r=.returned v∧Own w' J.heap.size v (X - Y)∧Bw J w':=fun dd =>
  (c138 (w:=(J.drewN dd).drew) hp.is hq.is ω ω).mono fun r w' ⟨v,e1,o1,o2⟩=>⟨v,e1,o1,Below.trans (b:=(J.drewN dd).drew) ⟨rfl,rfl,rfl,kH8 _,fun _ _=>rfl⟩ o2⟩
 have F:∀ w',Bw J w'→w'.cell? ⟨w.heap.size,0,none⟩=some (.bool na):=fun w' hb=>(hb.cell (World.block_lt_of_cell? _ _ a0)).trans a0;have HK:Hid (∀ w',Bw J w'→w'.cell? ⟨w.heap.size,0,none⟩=some (.bool na)):=F;have qY:∀ v5 w5,Own w5 J.heap.size v5 (X - Y)→Bw J w5→Ca 153 #[.bool na,v5,iV e] w5 fun r w'=>∃ s ao n cap ex,r=.returned (.agg (Nu s ao n cap ex)) ∧
   Hid (Nrm w' w5.heap.size (.agg (Nu s ao n cap ex)) na (X - Y) e∧J.heap.size≤w5.heap.size)∧Bw J w'∧Hid (Hn w' (w.heap.size+1+1) false none 0 0 0 50) ∧
   (w'.cell? ⟨w.heap.size+1+1,0,none⟩=some (.bool false)∧w'.cell? ⟨w.heap.size+1+1,1,none⟩=some (.slice none 0 0)∧w'.cell? ⟨w.heap.size+1+1,2,none⟩=some (iV 0))∧(w'.frozen? ⟨w.heap.size+1+1,0,none⟩=false∧w'.frozen? ⟨w.heap.size+1+1,1,none⟩=false∧w'.frozen? ⟨w.heap.size+1+1,2,none⟩=false):=by
  intro v5 w5 ho hb;refine(c56 ho.is (kF8 (qZ5 (Nat.sub_le ..)) ω) ((qV.later H).later hb) ω).mono ?_
  rintro r w6 ⟨a,rfl,hN,D⟩;obtain⟨s,ao,n,cap,ex,rfl⟩:=hN.shape;have I:Bw J w6:=hb.trans (D.mono hb.size);have C:=qQ0 T.out.1 I (by have:=T.out.2.size;omega)
  obtain⟨f1,f2⟩:=qQ3 C;exact⟨s,ao,n,cap,ex,rfl,⟨hN,hb.size⟩,I,C,f1,f2⟩
 clear h1 h2 h3 hp hq H qZ hs u qV F qP qM qN
 go_wp2_with fail;refine L.mono ?_;rintro r w7 ⟨rfl,dd,rfl⟩;have V:=V dd;clear L;have qE:Hid (∀ w',Bw J w'→w'.cell? ⟨w.heap.size,0,none⟩=some (.bool na)):=HK.out;have z0:(J.drewN dd).cell? ⟨w.heap.size,0,none⟩=some (.bool na):=a0
 go_wp2
 go_region_held3 (fun w'=>w'.cell? ⟨w.heap.size,0,none⟩=some (.bool na)) (first|(with_reducible assumption)|(refine HK.out _ ?_;with_reducible assumption)|(rw[World.cell?_setCell_other _ _ _ _ (by simp),World.cell?_setCell_other _ _ _ _ (by simp),World.cell?_setCell_other _ _ _ _ (by simp)];refine HK.out _ ?_;with_reducible assumption)|go_keep)
  (first|(go_at_call 257;refine V.mono ?_;rintro r w5 ⟨v5,rfl,qK,qJ⟩)|(go_at_call 153;refine(qY _ _ qK qJ).mono ?_;rintro r w6 ⟨s6,qS,n6,qF,qD,rfl,qU,D,qQ,⟨x1,x2,x3⟩,x4,x5,x6⟩))
 have HF:Hid (Bw J w6):=D;clear qK qJ D qY V x1 x2 x3 x4 x5 x6 a0 a1 a2 b0 b1 b2 HK
 go_wp2;refine kB8 (kM2 rfl _ _ (w.heap.size+1+1) 50 (Nu s6 qS n6 qF qD) (0,0) _ rfl (qX8 _ _ _ qQ.out) Tryz.underlying50 rfl Tryz.info50) rfl ?_;obtain⟨-,hs,u,-⟩:=HH.out;have qB:=T.out.2.size;have qR:=qU.out.2;exact⟨_,rfl,(qU.out.1.store ω _ _ _).mono ω,qQ4 (u.trans ((T.out.2.trans (HF.out.mono qB)).mono u.size)) ω _ _ _⟩
def sumN (na:Bool) (x:Nat) (ea:Int) (nb:Bool) (y:Nat) (eb:Int):Bool×Nat×Int :=
 if x=0 then(nb,y,eb)else if y=0 then(na,x,ea) else
  if na=nb then(na,x*2^(ea - min ea eb).toNat+y*2^(eb - min ea eb).toNat,min ea eb)
  else if x*2^(ea - min ea eb).toNat<y*2^(eb - min ea eb).toNat then(nb,y*2^(eb - min ea eb).toNat - x*2^(ea - min ea eb).toNat,min ea eb)
  else(na,x*2^(ea - min ea eb).toNat - y*2^(eb - min ea eb).toNat,min ea eb)
theorem qY8 {x n:Nat} (hx:x≠0):((dlen x:Int)==0)=false:=by
 have:dlen x≠0:=fun e=>hx (qQ8.1 e)
 simp;omega
theorem qJ7 (x y:Nat):dlen (x+y)≤max (dlen x) (dlen y)+1:=by
 rw[qZ3,qY0];have Y:=(qZ3 (max (dlen x) (dlen y)) x).1 ω;have u:=(qZ3 (max (dlen x) (dlen y)) y).1 ω;have:B^max (dlen x) (dlen y)*2≤B^max (dlen x) (dlen y)*B:=kB1 _ (by unfold B;omega)
 omega
theorem c87 {na nb:Bool} {u v:Value} {x y:Nat} {ea eb:Int} {w:World} (h1:Is w u x) (h2:Is w v y) (hx:dlen x≤500000) (hy:dlen y≤500000) (ha : -4000000≤ea∧ea≤4000000) (hb : -4000000≤eb∧eb≤4000000) (L:Tab32 w) :
  Ca 220 #[NumV na u ea,NumV nb v eb] w fun r w'=>∃ a,r=.returned a∧Nrm w' w.heap.size a (sumN na x ea nb y eb).1 (sumN na x ea nb y eb).2.1 (sumN na x ea nb y eb).2.2∧Bw w w':=by
 have qZ:=h1;have qQ:=h2;obtain⟨ua,uc,rfl,-,-,-⟩:=qZ;obtain⟨F,H,rfl,-,-,-⟩:=qQ;unfold sumN;by_cases V:x=0
 ·subst V;rw[kU6 rfl,qQ5];exact c87_a na nb ua F uc _ H y ea eb w L h2 ω hb
 ·rw[kU5 V];by_cases D:y=0
  ·subst D;rw[kU6 rfl,qQ5];exact c87_b na nb ua F _ uc H x ea eb w L h1 ω ha (qY8 (n:=0) V)
  ·rw[kU5 D];have I : -4000000≤min ea eb∧min ea eb≤4000000:=ω;have l1:dlen (x*2^(ea - min ea eb).toNat)≤760000:=by have:=qK2 (x:=x) (k:=(ea - min ea eb).toNat) rfl;omega
   have l2:dlen (y*2^(eb - min ea eb).toNat)≤760000:=by have:=qK2 (x:=y) (k:=(eb - min ea eb).toNat) rfl;omega
   have J:∀ W,Bw w W→Ca 158 #[NumV na (.slice ua (dlen x) uc) ea,NumV nb (.slice F (dlen y) H) eb] W fun r w'=>∃ p q,r=.returned (.tuple #[p,q,iV (min ea eb)])∧Own w' W.heap.size p (x*2^(ea - min ea eb).toNat)∧Own w' W.heap.size q (y*2^(eb - min ea eb).toNat)∧Bw W w' :=
    fun W hW=>c99 (h1.later hW) (h2.later hW) ω ω ha hb
   by_cases C:na=nb
   ·subst C;rw[kU6 rfl];exact c87_c na ua F _ uc _ H _ _ ea eb _ w L (by have:=qJ7 (x*2^(ea - min ea eb).toNat) (y*2^(eb - min ea eb).toNat);omega) ω ω I (qY8 (n:=0) V) (qY8 (n:=0) D) J
   ·rw[kU5 C];have T:(na==nb)=false:=by simp[C]
    by_cases Y:x*2^(ea - min ea eb).toNat<y*2^(eb - min ea eb).toNat
    ·rw[kU6 Y];exact c87_d na nb ua F _ uc _ H _ _ ea eb _ w L Y T ω ω I (qY8 (n:=0) V) (qY8 (n:=0) D) J
    ·rw[kU5 Y];exact c87_e na nb ua F _ uc _ H _ _ ea eb _ w L ω T ω ω I (qY8 (n:=0) V) (qY8 (n:=0) D) J
theorem qO9 {na nb:Bool} {ua V:Option Addr} {uc J x y g:Nat} {ea eb:Int} {W:World} (H:W.heap[g]?=some (.cells #[.bool na,.slice ua (dlen x) uc,iV ea,.bool nb,.slice V (dlen y) J,iV eb] 50 (0,0)))
  (u:Is W (.slice ua (dlen x) uc) x) (T:Is W (.slice V (dlen y) J) y) (hx:dlen x≤35184372088832) (I:dlen y≤35184372088832) :
  Ca 128 #[.slice (some ⟨g,0,none⟩) 2 2] W (Rq W (.bool (okN na (dlen x) x ea&&okN nb (dlen y) y eb))):=by
 obtain⟨C,c1,F,-,-,a1⟩:=u;obtain⟨L,c2,e2,-,-,a2⟩:=T;simp only[Value.slice.injEq] at F e2;obtain⟨rfl,-,rfl⟩:=F;obtain⟨rfl,-,rfl⟩:=e2;have k:=c67 g 2 (fun i=>if i=0 then na else nb) (fun i=>if i=0 then ua else V) (fun i=>if i=0 then dlen x else dlen y) (fun i=>if i=0 then uc else J) (fun i=>if i=0 then x else y) (fun i=>if i=0 then ea else eb) W ω
  (fun i hi=>by rcases(show i=0∨i=1 by omega)with rfl|rfl <;> simp[World.cell?,H])
  (fun i hi=>by rcases(show i=0∨i=1 by omega)with rfl|rfl <;> simp[World.cell?,H])
  (fun i hi=>by rcases(show i=0∨i=1 by omega)with rfl|rfl <;> simp[World.cell?,H])
  (fun i hi=>by rcases(show i=0∨i=1 by omega)with rfl|rfl <;> simp <;> assumption)
  (fun i hi=>by rcases(show i=0∨i=1 by omega)with rfl|rfl <;> simp <;> omega)
 refine k.mono ?_;rintro r w' ⟨rfl,D⟩;refine⟨kU7 Ending.returned (kU7 Value.bool ?_),D⟩
 rw[Bool.eq_iff_iff];simp only[decide_eq_true_eq,kB9];constructor
 ·intro h;have Y:=h 0 ω;have u:=h 1 ω;simp at Y u
  exact⟨Y,u⟩
 ·rintro⟨Y,u⟩ i hi
  rcases(show i=0∨i=1 by omega)with rfl|rfl
  ·simpa using Y
  ·simpa using u
def okR (s:Bool) (z:Nat) (e:Int):Bool:=if z=0 then true else okN s (dlen (z / 2^tz z)) (z / 2^tz z) (e+tz z)
theorem c63n {s:Bool} {z:Nat} {e:Int} {A:Value} {w:World} {u:Nat} (h:Nrm w u A s z e) (Y:dlen z≤35184372088832) :
  Ca 200 #[A] w (Rq w (.tuple #[if okR s z e then A else Nil,iV (if okR s z e then 0 else 2)])):=by
 unfold okR;rcases h with ⟨rfl,rfl⟩|⟨H,v,rfl,J⟩
 ·have:=c63 (neg:=false) (cap:=0) (e:=0) (w:=w) (ao:=none) (n:=0) (z:=0) ⟨0,0,fun h=>by omega,fun i hi=>by omega⟩ ω
  have F:okN false 0 0 0=true:=rfl;rw[F] at this;simpa [NumV] using this
 ·obtain⟨ao,cap,rfl,-,-,V⟩:=J.is;rw[kU5 H];exact c63 V (kF8 (qZ5 (kF9 ..)) Y)
def Held (w:World) (s:Bool) (z:Nat) (e:Int) (r:Ending) (w':World):Prop :=
 ∃ A,r=.returned (.tuple #[if okR s z e then A else Nil,.int .i64 (if okR s z e then 0 else 2)])∧Nrm w' w.heap.size A s z e∧Bw w w'
theorem c34_1 (na nb:Bool) (ua D:Option Addr) (un uc H F x y z:Nat) (ea eb e:Int) (s:Bool) (w:World) (hz:dlen z≤35184372088832)
  (qX:∀ W g,Bw w W→W.heap[g]?=some (.cells #[.bool na,.slice ua un uc,iV ea,.bool nb,.slice D H F,iV eb] 50 (0,0))→Ca 128 #[.slice (some ⟨g,0,none⟩) 2 2] W (Rq W (.bool true)))
  (qY:∀ W,Bw w W→Ca 220 #[.agg (Nu na ua un uc ea),.agg (Nu nb D H F eb)] W fun r w'=>∃ a,r=.returned a∧Nrm w' W.heap.size a s z e∧Bw W w') :
  Ca 167 #[NumV na (.slice ua un uc) ea,NumV nb (.slice D H F) eb] w fun r w'=>Held w s z e r w':=by
 obtain⟨W,hW⟩:=eE (((w.alloc (.cells (Nu na ua un uc ea) 50)).alloc (.cells (Nu nb D H F eb) 50)).alloc (.cells (Nu false none 0 0 0) 50));obtain⟨hA,qK,hC,T,u⟩:=qK9 _ _ _ hW;have qJ:Below w.heap.size w (W.alloc (.cells #[.bool na,.slice ua un uc,iV ea,.bool nb,.slice D H F,iV eb] 50)):=u.alloc u.size _;have k1:=qX (W.alloc (.cells #[.bool na,.slice ua un uc,iV ea,.bool nb,.slice D H F,iV eb] 50)) (w.heap.size+1+1+1) qJ (by rw[←T];exact kB7 _ _)
 have J:Hid ((Hn W w.heap.size na ua un uc ea 50∧Hn W (w.heap.size+1) nb D H F eb 50∧Hn W (w.heap.size+1+1) false none 0 0 0 50)∧W.heap.size=w.heap.size+1+1+1∧Bw w W∧Below W.heap.size W (W.alloc (.cells #[.bool na,.slice ua un uc,iV ea,.bool nb,.slice D H F,iV eb] 50))):=⟨⟨hA,qK,hC⟩,T,u,bR.alloc lR _⟩;have HZ:Hid _:=hz;have qG:Hid _:=qY;unfold NumV;clear hA qK hC T u qJ qX qY hz
 go_enter Tryz.func167,Tryz.ntmps167
 go_wp2_with fail;rw[←hW];clear hW;refine k1.mono ?_;rintro r w1 ⟨rfl,qU⟩;clear k1;have Y:=J.out.2.2.2.trans (qU.mono J.out.2.2.2.size);obtain⟨⟨a0,a1,a2⟩,-⟩:=qQ3 (qQ0 J.out.1.1 Y (by have:=J.out.2.1;omega))
 obtain⟨⟨b0,b1,b2⟩,-⟩:=qQ3 (qQ0 J.out.1.2.1 Y (by have:=J.out.2.1;omega))
 have V:Hid _:=Y;clear qU Y
 go_wp2_with fail;refine(qG.out w1 (J.out.2.2.1.trans (V.out.mono J.out.2.2.1.size))).mono ?_
 rintro r w2 ⟨A,rfl,hN,qV⟩;have qH:Hid _:=V.out.trans (qV.mono V.out.size);have HN:Hid _:=hN.mono V.out.size;clear hN qV a0 a1 a2 b0 b1 b2
 go_wp2_with fail;refine(c63n HN.out HZ.out).mono ?_
 rintro r w3 ⟨rfl,C⟩;have qZ:Hid _:=qH.out.trans (C.mono qH.out.size);have I:Hid (Nrm w3 W.heap.size A s z e):=by
  rcases HN.out with h|⟨h0,v,h1,ho⟩
  ·exact .inl h
  ·exact .inr ⟨h0,v,h1,ho.later C⟩
 have qQ:Hid (Hn w3 (w.heap.size+1+1) false none 0 0 0 50):=qQ0 J.out.1.2.2 qZ.out (by have:=J.out.2.1;omega)
 obtain⟨⟨x1,x2,x3⟩,x4,x5,x6⟩:=qQ3 qQ.out;obtain⟨s',ao,n,cap,ex,L⟩:=I.out.shape;have qB:Hid _:=L;clear C;cases hok:okR s z e
 ·clear L;have qF:Nil=.agg (Nu false none 0 0 0):=rfl
  go_wp2;refine kB8 (qQ6 rfl _ _ (w.heap.size+1+1) 50 (Nu false none 0 0 0) (0,0) _ rfl (qX8 _ _ _ qQ.out) Tryz.underlying50 rfl Tryz.info50) rfl ?_;obtain⟨-,hs,u,-⟩:=J.out;exact⟨A,by rw[hok];rfl,(I.out.store ω _ _ _).mono ω,qQ4 (u.trans (qZ.out.mono u.size)) ω _ _ _⟩
 ·subst L
  go_wp2;refine kB8 (qQ6 rfl _ _ (w.heap.size+1+1) 50 (Nu s' ao n cap ex) (0,0) _ rfl (qX8 _ _ _ qQ.out) Tryz.underlying50 rfl Tryz.info50) rfl ?_;obtain⟨-,hs,u,-⟩:=J.out;exact⟨_,by rw[hok];rfl,(I.out.store ω _ _ _).mono ω,qQ4 (u.trans (qZ.out.mono u.size)) ω _ _ _⟩
end Go.Proofs.YtfkaogdmlcdceaaGreatDoor
