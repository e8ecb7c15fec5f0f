/- Own work: contracts of the program's functions, part 7: SA3 RC2 RC3 V1 V2 E2 V3 E3 V4 RC4 W42 W44 RC5 RD1 SA6 L5 G3 W43 L7 L9 RT2 DV1 RV1 DV2 DV3. -/
import Derived.Test.YtfkaogdmlcdceaaGreatDoorA3
import Derived.Test.YtfkaogdmlcdceaaGreatDoorA6
import Derived.Test.YtfkaogdmlcdceaaGreatDoorA5
import Derived.Test.YtfkaogdmlcdceaaGreatDoorA2
import Derived.Test.YtfkaogdmlcdceaaGreatDoorA4
import Derived.Laws.AppendOwnNone
import Derived.Deep.CutRange
import Derived.Test.YtfkaogdmlcdceaaGreatDoorA1

set_option maxHeartbeats 16000000
set_option maxRecDepth 200000
set_option linter.unusedVariables false
set_option linter.unusedSimpArgs false
namespace Go.Proofs.YtfkaogdmlcdceaaGreatDoor
open Go.RowKit Go.Fl64
attribute [local go_sem] iV Nu
theorem yA6 {neg:Bool} {ao:Option Addr} {n cap x:Nat} {e:Int} {w:World} (H:At w ao n x) (T:dlen x≤n) (F:n≤cap) (I:n≤1000000000) (C : -4611686018427387904≤e∧e≤4611686018427387904) :
  Ca 103 (Nu neg ao n cap e) w fun r w'=>∃ a,r=.returned a∧NC w' w.heap.size a neg x e∧Bw w w':=by
 by_cases Y:x=0
 ·subst Y;refine(xC neg ao _ cap e w H F ω).mono ?_
  rintro r w' ⟨rfl,V⟩;refine⟨_,rfl,⟨none,0,?_,?_,fun ad e=>by cases e⟩,V⟩
  ·unfold cn;rw[kU6 rfl,qQ5]
  ·unfold cn;rw[kU6 rfl];exact⟨fun _=>.inr ⟨rfl,rfl⟩,⟨0,0,fun h=>by rw[qQ5] at h;omega,fun i hi=>by rw[qQ5] at hi;omega⟩,by rw[qQ5];exact kH8 _,by rw[qQ5];omega⟩
 ·refine(yI0 neg ao _ cap x e w H T F I Y C).mono ?_
  rintro r w' ⟨g,u,rfl,W,J,D,V⟩;have L:dlen (x / 2^tz x)≤dlen x:=qZ5 (kF9 _ _);refine⟨_,rfl,⟨some ⟨g,0,none⟩,u,?_,?_,fun ad e _=>?_⟩,V⟩
  ·unfold cn;rw[kU5 Y]
  ·unfold cn;rw[kU5 Y];exact⟨fun _=>.inl ⟨_,rfl⟩,D,J,(by omega:dlen (x / 2^tz x)≤35184372088832)⟩
  ·injection e with e;rw[←e];exact W
theorem qD7 {ng:Bool} {m:Nat} {e:Int} {W:World} (Y:m<18446744073709551616) (J : -4611686018427387904≤e∧e≤4611686018427387904) :
  Ca 103 (Nu ng (some ⟨W.heap.size,0,none⟩) 2 2 e) (W.alloc (Obj.cells #[Value.int IntKind.u32 ((m:Int) % 4294967296),Value.int IntKind.u32 ((m:Int) / 4294967296)] 96)) fun r w'=>∃ s ao n cap ex,r=.returned (.agg (Nu s ao n cap ex))∧NC w' (W.heap.size+1) (.agg (Nu s ao n cap ex)) ng m e∧Bw W w':=by
 have H:dlen m≤2:=(qZ3 2 m).2 (by unfold B;omega)
 refine(yA6 (xD5 m W Y) H lR ω J).mono ?_
 rintro r w' ⟨a,rfl,u,V⟩;obtain⟨s,ao,n,cap,ex,rfl⟩:=u.shape;refine⟨_,_,_,_,_,rfl,u.mono (by simp),?_⟩
 exact((kH9 W.heap.size W).alloc lR _).trans (V.mono (by simp))
theorem x33_0 (a m:Nat) (w:World) (ng:Bool) (hX:bits .and .u64 ((a:Int) / 4503599627370496) 2047=0) (L:bits .and .u64 (a:Int) 4503599627370495=(m:Int)) (I:((a:Int) / 9223372036854775808==1)=ng) (hm:m<18446744073709551616) :
  Ca 100 #[.float .f64 a] w fun r w'=>∃ A,r=.returned A∧NC w' w.heap.size A ng m (-1074)∧Bw w w':=by
 have kb:=Ie.run_bits;obtain⟨W,J⟩:=eE (w.alloc (.cells (Nu false none 0 0 0) 54));have Y:=qD7 (ng:=ng) (m:=m) (e:=(-1074)) (W:=W) hm ω;have u:Hid (Bw w W∧Hn W w.heap.size false none 0 0 0 54∧W.heap.size=w.heap.size+1):=⟨by rw[J];exact bR.alloc lR _,by rw[J];exact kB7 _ _,by rw[J];simp⟩
 (try unfold Bw at Y);rw[u.out.2.2] at Y
 go_enter Tryz.func100,Tryz.ntmps100
 go_wp2_with fail;rw[←J];clear J;refine Y.mono ?_;rintro r H ⟨s,ao,n,cap,ex,rfl,T,F⟩;have D:=u.out.2.2;have V:Hid (Hn H w.heap.size false none 0 0 0 54):=qQ0 u.out.2.1 F ω;obtain⟨⟨a1,a2,a3⟩,a4,a5,a6⟩:=qQ1 V.out;have C:Hid (NC H (w.heap.size+1) (.agg (Nu s ao n cap ex)) ng m (-1074)∧Below (w.heap.size+1) W H):=⟨T.mono ω,F⟩;clear T F Y D
 go_wp2;refine kB8 (kM2 rfl _ _ w.heap.size 54 (Nu s ao n cap ex) (0,0) _ rfl (qZ9 _ _ _ V.out) Tryz.underlying54 rfl Tryz.info54) rfl ?_;have D:=u.out.2.2;exact⟨_,rfl,(C.out.1.store ω _ _ _).mono ω,qQ4 (u.out.1.trans (C.out.2.mono ω)) lR _ _ _⟩
theorem x33_1 (a D m:Nat) (X:Int) (w:World) (ng:Bool) (hX:bits .and .u64 ((a:Int) / 4503599627370496) 2047=X) (qK:(X==0)=false) (qX:0≤X) (qY:X<2048) (C:bits .and .u64 (a:Int) 4503599627370495=(D:Int)) (qQ:bits .or .u64 (D:Int) 4503599627370496=(m:Int)) (qZ:((a:Int) / 9223372036854775808==1)=ng) (hm:m<18446744073709551616) :
  Ca 100 #[.float .f64 a] w fun r w'=>∃ A,r=.returned A∧NC w' w.heap.size A ng m (X - 1075)∧Bw w w':=by
 have kb:=Ie.run_bits;obtain⟨W,J⟩:=eE (w.alloc (.cells (Nu false none 0 0 0) 54));have Y:=qD7 (ng:=ng) (m:=m) (e:=(X - 1075)) (W:=W) hm ω;have u:Hid (Bw w W∧Hn W w.heap.size false none 0 0 0 54∧W.heap.size=w.heap.size+1):=⟨by rw[J];exact bR.alloc lR _,by rw[J];exact kB7 _ _,by rw[J];simp⟩
 (try unfold Bw at Y);rw[u.out.2.2] at Y
 go_enter Tryz.func100,Tryz.ntmps100
 go_wp2_with fail;rw[←J];clear J;refine Y.mono ?_;rintro r H ⟨s,ao,n,cap,ex,rfl,L,F⟩;have T:=u.out.2.2;have V:Hid (Hn H w.heap.size false none 0 0 0 54):=qQ0 u.out.2.1 F ω;obtain⟨⟨a1,a2,a3⟩,a4,a5,a6⟩:=qQ1 V.out;have I:Hid (NC H (w.heap.size+1) (.agg (Nu s ao n cap ex)) ng m (X - 1075)∧Below (w.heap.size+1) W H):=⟨L.mono ω,F⟩;clear L F Y T
 go_wp2;refine kB8 (kM2 rfl _ _ w.heap.size 54 (Nu s ao n cap ex) (0,0) _ rfl (qZ9 _ _ _ V.out) Tryz.underlying54 rfl Tryz.info54) rfl ?_;have T:=u.out.2.2;exact⟨_,rfl,(I.out.1.store ω _ _ _).mono ω,qQ4 (u.out.1.trans (I.out.2.mono ω)) lR _ _ _⟩
theorem x33 (a:Nat) (L:a<18446744073709551616) (w:World) :
  Ca 100 #[.float .f64 a] w fun r w'=>∃ A,r=.returned A∧NC w' w.heap.size A (neg a) (Ie.mant a) (Ie.lp a)∧Bw w w':=by
 have J:bits .and .u64 ((a:Int) / 4503599627370496) 2047=((mag a / 4503599627370496:Nat):Int):=by
  have e:(a:Int) / 4503599627370496=((a / 4503599627370496:Nat):Int):=ω;rw[e,yL5 _ ω];congr 1
  unfold mag;omega
 have u:bits .and .u64 (a:Int) 4503599627370495=((mag a % 4503599627370496:Nat):Int):=by
  rw[Ie.and_mant a L];congr 1
  unfold mag;omega
 have Y:((a:Int) / 9223372036854775808==1)=neg a:=by
  unfold neg;rw[Bool.beq_eq_decide_eq];congr 1
  apply propext
  omega
 have T:mag a<9223372036854775808:=by unfold mag;omega
 by_cases F:mag a<4503599627370496
 ·have D:mag a / 4503599627370496=0:=ω;have e2:mag a % 4503599627370496=mag a:=ω;rw[D] at J;rw[e2] at u;have H:Ie.mant a=mag a:=by unfold Ie.mant;rw[kU6 F]
  have V:Ie.lp a = -1074:=by unfold Ie.lp;rw[D];omega
  rw[H,V];exact x33_0 a (mag a) w (neg a) J u Y ω
 ·have H:Ie.mant a=4503599627370496+mag a % 4503599627370496:=by unfold Ie.mant;rw[kU5 F]
  have V:Ie.lp a=((mag a / 4503599627370496:Nat):Int) - 1075:=by unfold Ie.lp;omega
  rw[H,V];exact x33_1 a _ _ _ w (neg a) J (by rw[Bool.beq_eq_decide_eq];simp;omega) ω ω u (Ie.or_mant _ ω) Y ω
def tF (a:Nat):Bool×Nat×Int:=cn (neg a) (Ie.mant a) (Ie.lp a)
def DN (w:World) (A:Value) (t:Bool×Nat×Int):Prop:=∃ ao cap,A=.agg #[.bool t.1,.slice ao (dlen t.2.1) cap,.int .i64 t.2.2]∧Arg w ao (dlen t.2.1) cap t.2.1
theorem DN.later {w w':World} {A:Value} {t:Bool×Nat×Int} (h:DN w A t) (u:Bw w w'):DN w' A t:=by
 obtain⟨ao,cap,J,Y⟩:=h;exact⟨ao,cap,J,Y.later u⟩
theorem DN.shape {w:World} {A:Value} {t:Bool×Nat×Int} (h:DN w A t):∃ s ao n cap e,A=.agg (Nu s ao n cap e):=by
 obtain⟨ao,cap,u,-⟩:=h;exact⟨_,_,_,_,_,u⟩
theorem NC.dn {w:World} {u:Nat} {a:Value} {neg:Bool} {x:Nat} {e:Int} (h:NC w u a neg x e):DN w a (cn neg x e):=by
 obtain⟨ao,cap,J,Y,-⟩:=h;exact⟨ao,cap,J,Y⟩
theorem yR4 (a:Nat) (Y:a<18446744073709551616) (w:World) :
  Ca 100 #[.float .f64 a] w fun r w'=>∃ A,r=.returned A∧DN w' A (tF a)∧Bw w w' :=
 (x33 a Y w).mono fun r w' ⟨A,e,h,u⟩=>⟨A,e,h.dn,u⟩
end Go.Proofs.YtfkaogdmlcdceaaGreatDoor
namespace Go.Proofs.YtfkaogdmlcdceaaGreatDoor
open Go.RowKit
attribute [local go_sem] iV Nu
theorem kY9 (b o cap m u V x k:Nat) (w:World) (qU:0<m) (hm:m≤35184372088832) (hk:k≤1099511627776) (qX:u+m≤cap) (I:cap≤9223372036854775807) (H:k / 32=u) (F:k % 32=V)
  (hn:dlen x=u+m) (Y:∀ i,i<u+m→w.cell? ⟨b,o+i,none⟩=some (.int .u32 (dg x i:Nat))) :
  Ca 214 #[.slice (some ⟨b,o,none⟩) (u+m:Nat) cap,iV k] w fun e w'=>∃ v,e=.returned v∧Own w' w.heap.size v (x / 2^k)∧Bw w w':=by
 have hq:(k:Int).tdiv 32=((k / 32:Nat):Int):=by rw[kG6 ω];rfl
 have hr:(k:Int).tmod 32=((k % 32:Nat):Int):=by rw[Int.tmod_eq_emod_of_nonneg ω];rfl
 have qK:u≤1099511627776:=ω;have qJ:V<32:=ω;rw[H] at hq;rw[F] at hr;have W:=run_make_row' (P:=Tryz.prog) 48 96 (.int .u32 0) 4 Tryz.underlying48 Tryz.info96 rfl .i64 .i64 m ω ω;have HN:Hid _:=hn;have HW:Hid _:=H;have HP:Hid _:=F;clear hn H F;have qV:(u:Int)<((u+m:Nat):Int):=ω;have qZ:¬ u=cap:=ω
 go_enter Tryz.func214,Tryz.ntmps214
 go_wp2;clear W
 go_loopw [27] (fun i wr=>∃ j:Nat,j≤m∧i=iV j∧Mk w wr m (fun t=>if t<j then dg (x / 2^k) t else 0)) (fun i _=>m - (intOf i).toNat)
 case atStart=>exact⟨0,kB4 _,rfl,(Mk.start w _).congr fun i hi=>by rw[kU5 ω]⟩
 case round =>
  obtain⟨j,hj,rfl,J⟩:=hrel;by_cases qG:j+1<m
  ·have g1:=J.old (Y (u+j) ω);have g4:=J.old (Y (u+(j+1)) ω);rw[←kH4] at g1 g4;have g2:=J.cell (i:=j) ω;have g3:=J.frozen j;rw[kU5 ω] at g2;have C:(j:Int)+1<(m:Int):=ω;have HM:Hid _:=J;generalize T:dg x (u+j)=d at *;generalize D:dg x (u+(j+1))=d1 at *;have HD:Hid _:=T;have qQ:Hid _:=D;have L:Hid (d<B∧d1<B):=⟨T ▸ qX1 _ _,D ▸ qX1 _ _⟩;clear T D J Y
   go_wp2;exact qS5 HM.out (by rw[qS3 L.out.1 L.out.2,qG0 HW.out HP.out,HD.out,qQ.out]) ω
  ·by_cases qH:j<m
   ·have g1:=J.old (Y (u+j) ω);rw[←kH4] at g1;have g2:=J.cell (i:=j) ω;have g3:=J.frozen j;rw[kU5 ω] at g2;have C:¬ (j:Int)+1<(m:Int):=ω;have qY:(j:Int)<(m:Int):=ω;have HM:Hid _:=J;generalize T:dg x (u+j)=d at *;have HD:Hid _:=T;have L:Hid (d<B):=T ▸ qX1 _ _;have HZ:Hid (dg x (u+(j+1))=0):=qK7 (by rw[HN.out];omega)
    clear T J Y
    go_wp2;exact qS5 HM.out (by rw[qS4 L.out,qG0 HW.out HP.out,HD.out,HZ.out,Nat.zero_mul,kH7]) ω
   ·obtain rfl:j=m:=ω;have hE:Mk w wr j (dg (x / 2^k)):=J.congr fun i hi=>kU6 hi;have hA:=hE.at;have hL:=zZ8 (k:=k) (m:=j) (by rw[HW.out];exact HN.out)
    have HC:Hid _:=hE;clear J Y hE
    go_wp2_with (first|(go_at_call 199;refine(c62 _ _ _ (x / 2^k) _ hL lR ω hA).mono ?_;rintro e w' ⟨rfl,rfl⟩))
    go_ret;exact⟨_,rfl,HC.out.own hL ω,HC.out.below⟩
theorem yE4 {x:Nat} (u:x≠0):tz x / 32<dlen x:=by
 have H:=(qX0 _ x lR u);have L:2^tz x≤x:=by
  have V:1≤x / 2^tz x:=kB0 fun F=>by have:=H.2;rw[F] at this;simp at this
  have:=kB1 (2^tz x) V
  omega
 have T:=qG2 x;have D:tz x<bl x:=Nat.lt_of_not_le fun J=>by
  have:=kF4 (n:=2) ω J
  omega
 have Y:dlen x≠0:=fun e=>u (qQ8.1 e);have:=zQ8 u
 have:=qD4 (qX1 x (dlen x - 1))
 omega
theorem c56_v (neg:Bool) (b o n cap x:Nat) (e:Int) (w:World) (Y:∀ i,i<n→w.cell? ⟨b,o+i,none⟩=some (.int .u32 (dg x i:Nat))) (qY:n≤cap) (qZ:cap≤9223372036854775807) (hn:dlen x=n) (hx:dlen x≤1000000000) (H:x≠0) (hT:Tab32 w) (he : -4611686018427387904≤e∧e≤4611686018427387904) :
  Ca 153 (Nu neg (some ⟨b,o,none⟩) n cap e) w fun r w'=>∃ v,r=.returned (.agg #[.bool neg,v,iV (e+tz x)])∧Own w' w.heap.size v (x / 2^tz x)∧Bw w w':=by
 obtain⟨J,V⟩:=eE (w.alloc (.cells (Nu false none 0 0 0) 50));have F:Bw w J:=by rw[V];exact bR.alloc lR _
 have u:∀ i,i<n→Ce J b (o+i) (.int .u32 (dg x i:Nat)):=fun i hi=>(F.cell (World.block_lt_of_cell? _ _ (Y i hi))).trans (Y i hi);have C:=hT.later F;have W:=c62 (some ⟨b,o,none⟩) n cap x J ω qY ω ⟨b,o,fun _=>rfl,u⟩;rw[hn] at W;have T:=xQ3 b o n cap x J ω hn H C u;have qQ:=yE4 H;have qK:tz x≤40000000000:=ω;have D:Ca 214 #[.slice (some ⟨b,o,none⟩) n cap,iV (tz x:Nat)] J fun e w'=>∃ v,e=.returned v∧Own w' J.heap.size v (x / 2^tz x)∧Bw J w':=by
  obtain⟨m,hm⟩:∃ m,dlen x=tz x / 32+m:=⟨dlen x - tz x / 32,ω⟩;rw[←hn,hm];exact kY9 b o cap m _ _ x (tz x) J ω ω ω ω qZ rfl rfl hm (fun i hi=>u i ω)
 have qJ:((n:Int)==0)=false:=by
  have:dlen x≠0:=fun e=>H (qQ8.1 e)
  simp;omega
 have HH:Hid (Hn J w.heap.size false none 0 0 0 50):=(by rw[V];exact kB7 _ _:Hn J w.heap.size false none 0 0 0 50)
 have qX:Hid _:=F;have HX:Hid (J.heap.size=w.heap.size+1):=(by rw[V];simp:J.heap.size=w.heap.size+1)
 generalize L:tz x=t at *;have qG:Hid _:=L;obtain⟨qU,qV⟩:=he;clear Y u hT C hn H hx F L qQ
 go_enter Tryz.func153,Tryz.ntmps153
 go_wp2_with fail;rw[←V];clear V;refine W.mono ?_;rintro e w1 ⟨rfl,rfl⟩;clear W
 go_wp2_with fail;refine T.mono ?_;rintro e w2 ⟨rfl,rfl⟩;clear T
 go_wp2_with fail;refine D.mono ?_;rintro e w3 ⟨v,rfl,hO,hB⟩;obtain⟨va,vc,rfl,-,-,-⟩:=hO.is;generalize dlen (x / 2^t)=vl at *;have I:Hid (Hn w3 w.heap.size false none 0 0 0 50):=qQ0 HH.out hB (by have:=HX.out;omega)
 obtain⟨⟨a1,a2,a3⟩,a4,a5,a6⟩:=qQ3 I.out;have HO:Hid _:=hO;have HB:Hid _:=hB;clear D hO hB
 go_wp2;refine kB8 (kM2 rfl _ _ w.heap.size 50 (Nu neg va vl vc (e+t)) (0,0) _ rfl (qX8 _ _ _ I.out) Tryz.underlying50 rfl Tryz.info50) rfl ?_;have hx:=HX.out;exact⟨_,rfl,(qU6 HO.out ω _ _ _).mono ω,qQ4 (qX.out.trans (HB.out.mono ω)) lR _ _ _⟩
def Mk25 (w w':World) (neg:Bool) (x:Nat) (e:Int) (r:Ending):Prop :=
 (okR neg x e=true∧∃ A,r=.returned (.tuple #[A,.int .i64 0])∧Nrm w' w.heap.size A neg x e)∨(okR neg x e=false∧r=.returned (.tuple #[.agg #[.bool false,.slice none 0 0,.int .i64 0],.int .i64 2]))
theorem c15_0 (neg:Bool) (ao:Option Addr) (n cap:Nat) (e:Int) (w:World) (h:At w ao n 0) (Y:n≤cap) (J:n≤70368744177664) :
  Ca 138 (Nu neg ao n cap e) w fun r w'=>Mk25 w w' neg 0 e r∧Bw w w':=by
 have u:Hid (Below w.heap.size w (w.alloc (.cells (Nu false none 0 0 0) 50))):=bR.alloc lR _;have k:=c62 ao n cap 0 (w.alloc (.cells (Nu false none 0 0 0) 50)) (by rw[qQ5];omega) Y J (h.later u.out)
 rw[qQ5] at k;clear h
 go_enter Tryz.func138,Tryz.ntmps138
 go_wp2_with fail;refine k.mono ?_;rintro r V ⟨rfl,rfl⟩
 go_wp2;refine kB8 (qQ6 rfl _ _ w.heap.size 50 (Nu false none 0 0 0) (0,0) _ rfl (kB7 _ _) Tryz.underlying50 rfl Tryz.info50) rfl ?_;refine⟨?_,u.out⟩
 unfold Mk25;exact .inl ⟨by unfold okR;rw[kU6 rfl],_,rfl,.inl ⟨rfl,rfl⟩⟩
theorem xV9 {neg:Bool} {x:Nat} {e:Int} (hx:x≠0) (h:e > 65536∨e < -65536 - 32*(dlen x:Int)):okR neg x e=false:=by
 have J:=yE4 hx;unfold okR okN;rw[kU5 hx];have u:dlen (x / 2^tz x)≠0:=by
  intro Y;have:=(qX0 _ x lR hx).2
  rw[qQ8.1 Y] at this;simp at this
 rw[kU5 u];simp only[Bool.and_eq_false_iff,decide_eq_false_iff_not];rcases h with h|h
 ·exact .inr ω
 ·exact .inl (.inr ω)
theorem c15_1 (neg:Bool) (b o n cap x:Nat) (e:Int) (w:World) (J:∀ i,i<n→w.cell? ⟨b,o+i,none⟩=some (.int .u32 (dg x i:Nat))) (qH:dlen x≤n) (hn:n≤cap) (qB:cap≤9223372036854775807) (hc:n≤1000000000) (H:x≠0) (he : -9223372036854775808≤e∧e≤9223372036854775807) (hT:Tab32 w) :
  Ca 138 (Nu neg (some ⟨b,o,none⟩) n cap e) w fun r w'=>Mk25 w w' neg x e r∧Bw w w':=by
 obtain⟨W,C⟩:=eE (w.alloc (.cells (Nu false none 0 0 0) 50));have D:Bw w W:=by rw[C];exact bR.alloc lR _
 have T:∀ i,i<n→Ce W b (o+i) (.int .u32 (dg x i:Nat)):=fun i hi=>(D.cell (World.block_lt_of_cell? _ _ (J i hi))).trans (J i hi);have V:=c62 (some ⟨b,o,none⟩) n cap x W qH hn ω ⟨b,o,fun _=>rfl,T⟩;have F:Hid (Bw w W∧W.heap.size=w.heap.size+1∧Hn W w.heap.size false none 0 0 0 50):=⟨D,by rw[C];simp,by rw[C];exact kB7 _ _⟩
 obtain⟨qW,qL⟩:=he;have qT:dlen x≠0:=fun e=>H (qQ8.1 e);have qR:dlen x≤1000000000:=ω;have qS:((dlen x:Int)==0)=false:=by simp;omega
 by_cases Y:e > 65536∨e < -65536 - 32*(dlen x:Int)
 ·have HO:Hid (okR neg x e=false):=xV9 H Y;clear J T D hT H;generalize dlen x=L at *;obtain⟨⟨a0,a1,a2⟩,a3,a4,a5⟩:=qQ3 F.out.2.2;rcases Y with Y|Y
  ·go_enter Tryz.func138,Tryz.ntmps138
   go_wp2_with fail;rw[←C];clear C;refine V.mono ?_;rintro r w1 ⟨rfl,u⟩;replace u:=u.symm;subst u;clear V
   go_wp2_with fail;refine kB8 (qQ6 rfl _ _ w.heap.size 50 (Nu false none 0 0 0) (0,0) _ rfl (qX8 _ _ _ F.out.2.2) Tryz.underlying50 rfl Tryz.info50) rfl ?_;refine⟨?_,qQ4 F.out.1 lR _ _ _⟩
   unfold Mk25;exact .inr ⟨HO.out,rfl⟩
  ·have qD:¬ e > 65536:=ω
   go_enter Tryz.func138,Tryz.ntmps138
   go_wp2_with fail;rw[←C];clear C;refine V.mono ?_;rintro r w1 ⟨rfl,u⟩;replace u:=u.symm;subst u;clear V
   go_wp2_with fail;refine kB8 (qQ6 rfl _ _ w.heap.size 50 (Nu false none 0 0 0) (0,0) _ rfl (qX8 _ _ _ F.out.2.2) Tryz.underlying50 rfl Tryz.info50) rfl ?_;refine⟨?_,qQ4 F.out.1 lR _ _ _⟩
   unfold Mk25;exact .inr ⟨HO.out,rfl⟩
 ·have h1:¬ e > 65536:=fun h=>Y (.inl h);have h2:¬ e < -65536 - 32*(dlen x:Int):=fun h=>Y (.inr h);have qK:=c56_v neg b o (dlen x) cap x e W (fun i hi=>T i ω) ω qB rfl ω H (hT.later D) ω;have qU:Hid (x≠0∧dlen x≤35184372088832):=⟨H,ω⟩;clear J T D hT H Y;generalize qV:dlen x=L at *;have qM:Hid (dlen x=L):=qV;clear qV
  go_enter Tryz.func138,Tryz.ntmps138
  go_wp2_with fail;rw[←C];clear C;refine V.mono ?_;rintro r w1 ⟨rfl,u⟩;replace u:=u.symm;subst u;clear V
  go_wp2_with fail;refine qK.mono ?_;rintro r w2 ⟨v,rfl,ho,qJ⟩;obtain⟨va,vk,rfl,-,-,-⟩:=ho.is;have HN:Hid (Nrm w2 W.heap.size (.agg (Nu neg va (dlen (x / 2^tz x)) vk (e+tz x))) neg x e):=(.inr ⟨qU.out.1,_,rfl,ho⟩:Nrm w2 W.heap.size (.agg (Nu neg va (dlen (x / 2^tz x)) vk (e+tz x))) neg x e);have qG:Hid (Bw W w2):=qJ;have qX:=c63n HN.out (by rw[qM.out];exact qU.out.2)
  clear qK ho qJ
  go_wp2_with fail;refine qX.mono ?_;rintro r w3 ⟨rfl,I⟩;have qY:Hid (Bw W w3):=qG.out.trans (I.mono qG.out.size);have qN:Hid (Nrm w3 W.heap.size (.agg (Nu neg va (dlen (x / 2^tz x)) vk (e+tz x))) neg x e):=HN.out.later I;have qZ:Hid (Hn w3 w.heap.size false none 0 0 0 50):=qQ0 F.out.2.2 qY.out (by have:=F.out.2.1;omega)
  obtain⟨⟨x1,x2,x3⟩,x4,x5,x6⟩:=qQ3 qZ.out;clear qX I;cases hok:okR neg x e
  ·have qQ:Hid (okR neg x e=false):=hok;have qP:Nil=.agg (Nu false none 0 0 0):=rfl
   go_wp2;refine kB8 (qQ6 rfl _ _ w.heap.size 50 (Nu false none 0 0 0) (0,0) _ rfl (qX8 _ _ _ qZ.out) Tryz.underlying50 rfl Tryz.info50) rfl ?_;refine⟨?_,qQ4 (F.out.1.trans (qY.out.mono F.out.1.size)) lR _ _ _⟩
   unfold Mk25;exact .inr ⟨qQ.out,rfl⟩
  ·have qQ:Hid (okR neg x e=true):=hok
   go_wp2;refine kB8 (qQ6 rfl _ _ w.heap.size 50 (Nu neg va (dlen (x / 2^tz x)) vk (e+tz x)) (0,0) _ rfl (qX8 _ _ _ qZ.out) Tryz.underlying50 rfl Tryz.info50) rfl ?_;refine⟨?_,qQ4 (F.out.1.trans (qY.out.mono F.out.1.size)) lR _ _ _⟩
   unfold Mk25;have qF:=qN.out;exact .inl ⟨qQ.out,_,rfl,(qF.store (by have:=F.out.2.1;omega) _ _ _).mono (by have:=F.out.2.1;omega)⟩
end Go.Proofs.YtfkaogdmlcdceaaGreatDoor
namespace Go.Proofs.YtfkaogdmlcdceaaGreatDoor
open Go.RowKit Go.Fl64
attribute [local go_sem] iV Nu
theorem yP8 (a m:Nat) (L:a<18446744073709551616) (D:mag a<9218868437227405312) (Y:Ie.sM a=(m:Int)) :
  (m=0∧Ie.mant a=0)∨(m≠0∧Ie.mant a≠0∧neg a=neg a∧m / 2^tz m=Ie.mant a / 2^tz (Ie.mant a)∧Ie.sE a+(tz m:Int)=Ie.lp a+(tz (Ie.mant a):Int)):=by
 unfold Ie.sM at Y;unfold Ie.sE;rw[kU5 ω] at Y ⊢;by_cases V:mag a=0
 ·rw[kU6 V] at Y;exact .inl ⟨ω,by unfold Ie.mant;rw[kU6 ω];exact V⟩
 ·rw[kU5 V] at Y ⊢;have T:=Ie.mant_bound a;have u:=Ie.mant_ne V;have H:Lib.ctz 64 (Ie.mant a)=tz (Ie.mant a):=zD1 u ω;rw[H] at Y ⊢;have F:m=Ie.mant a / 2^tz (Ie.mant a):=by
   have:((Ie.mant a / 2^tz (Ie.mant a):Nat):Int)=(m:Int):=by rw[←Y];simp
   omega
  obtain⟨W,J⟩:=qX0 _ (Ie.mant a) lR u;rw[←F] at J;have e2:=qC9 J;refine .inr ⟨by intro e;rw[e] at J;simp at J,u,rfl,?_,?_⟩
  ·rw[e2,←F];simp
  ·rw[e2];simp
end Go.Proofs.YtfkaogdmlcdceaaGreatDoor
namespace Go.Proofs.YtfkaogdmlcdceaaGreatDoor
open Go.RowKit
attribute [local go_sem] iV Nu
theorem abs_no (na:Bool) (ua:Option Addr) (un uc:Nat) (ea:Int) (w:World)
  (J:∀ W g,Bw w W→W.heap[g]?=some (.cells #[.bool na,.slice ua un uc,.int .i64 ea] 50 (0,0))→Calls Tryz.prog 128 #[.slice (some ⟨g,0,none⟩) 1 1] W fun r w'=>r=.returned (.bool false)∧Bw W w') :
  Calls Tryz.prog 61 #[.agg #[.bool na,.slice ua un uc,.int .i64 ea]] w fun r w'=>r=.returned (.agg #[.bool false,.slice none 0 0,.int .i64 0])∧Bw w w':=by
 obtain⟨W,F⟩:=eE ((w.alloc (.cells #[.bool na,.slice ua un uc,.int .i64 ea] 50)).alloc (.cells #[.bool false,.slice none 0 0,.int .i64 0] 50));have u:Bw w W:=by rw[F];exact(bR.alloc lR _).alloc (by simp) _
 have V:W.heap[w.heap.size+1]?=some (.cells #[.bool false,.slice none 0 0,.int .i64 0] 50 (0,0)):=by
  have:=kB7 (w.alloc (.cells #[.bool na,.slice ua un uc,.int .i64 ea] 50)) (.cells #[.bool false,.slice none 0 0,.int .i64 0] 50)
  rw[F];simpa using this
 have Y:W.heap.size=w.heap.size+1+1:=by rw[F];simp
 have k1:=J (W.alloc (.cells #[.bool na,.slice ua un uc,.int .i64 ea] 50)) (w.heap.size+1+1) (u.alloc u.size _) (by rw[←Y];exact kB7 _ _)
 have T:Hid (Bw w W∧W.heap.size=w.heap.size+1+1∧W.heap[w.heap.size+1]?=some (.cells #[.bool false,.slice none 0 0,.int .i64 0] 50 (0,0))):=⟨u,Y,V⟩;clear u Y V J
 go_enter Tryz.func61,Tryz.ntmps61
 go_wp2_with fail;rw[←F];clear F;refine k1.mono ?_;rintro r L ⟨rfl,H⟩;have D:Hid (Bw W L):=((kH9 W.heap.size W).alloc lR _).trans (H.mono (by simp))
 have I:Hid (L.heap[w.heap.size+1]?=some (.cells #[.bool false,.slice none 0 0,.int .i64 0] 50 (0,0))):=qQ0 T.out.2.2 D.out (by have:=T.out.2.1;omega)
 obtain⟨⟨x1,x2,x3⟩,x4,x5,x6⟩:=qQ3 I.out;clear k1 H
 go_wp2;refine kB8 (kM2 rfl _ _ (w.heap.size+1) 50 #[.bool false,.slice none 0 0,.int .i64 0] (0,0) _ rfl (qX8 _ _ _ I.out) Tryz.underlying50 rfl Tryz.info50) rfl ?_;obtain⟨C,q2,-⟩:=T.out;exact⟨rfl,qQ4 (C.trans (D.out.mono C.size)) ω _ _ _⟩
theorem abs_1 (na:Bool) (ua:Option Addr) (un uc x:Nat) (ea:Int) (w:World) (h1:Is w (.slice ua un uc) x) (hx:dlen x≤1000000)
  (qQ:∀ W g,Bw w W→W.heap[g]?=some (.cells #[.bool na,.slice ua un uc,.int .i64 ea] 50 (0,0))→Calls Tryz.prog 128 #[.slice (some ⟨g,0,none⟩) 1 1] W fun r w'=>r=.returned (.bool true)∧Bw W w') :
  Calls Tryz.prog 61 #[.agg #[.bool na,.slice ua un uc,.int .i64 ea]] w fun r w'=>∃ v,r=.returned (.agg #[.bool false,v,.int .i64 ea])∧Own w' w.heap.size v x∧Bw w w':=by
 obtain⟨W,I⟩:=eE ((w.alloc (.cells #[.bool na,.slice ua un uc,.int .i64 ea] 50)).alloc (.cells #[.bool false,.slice none 0 0,.int .i64 0] 50));have V:Bw w W:=by rw[I];exact(bR.alloc lR _).alloc (by simp) _
 have qX:W.heap[w.heap.size]?=some (.cells #[.bool na,.slice ua un uc,.int .i64 ea] 50 (0,0)):=by
  rw[I,Below.heap_alloc _ _ _ (by simp)];exact kB7 _ _
 have qY:W.heap[w.heap.size+1]?=some (.cells #[.bool false,.slice none 0 0,.int .i64 0] 50 (0,0)):=by
  have:=kB7 (w.alloc (.cells #[.bool na,.slice ua un uc,.int .i64 ea] 50)) (.cells #[.bool false,.slice none 0 0,.int .i64 0] 50)
  rw[I];simpa using this
 have T:W.heap.size=w.heap.size+1+1:=by rw[I];simp
 have k1:=qQ (W.alloc (.cells #[.bool na,.slice ua un uc,.int .i64 ea] 50)) (w.heap.size+1+1) (V.alloc V.size _) (by rw[←T];exact kB7 _ _)
 have L:Hid (Bw w W∧W.heap.size=w.heap.size+1+1∧W.heap[w.heap.size]?=some (.cells #[.bool na,.slice ua un uc,.int .i64 ea] 50 (0,0))∧W.heap[w.heap.size+1]?=some (.cells #[.bool false,.slice none 0 0,.int .i64 0] 50 (0,0))):=⟨V,T,qX,qY⟩;have HI:Hid (Is w (.slice ua un uc) x∧dlen x≤1000000):=⟨h1,hx⟩;clear V T qX qY qQ h1 hx
 go_enter Tryz.func61,Tryz.ntmps61
 go_wp2_with fail;rw[←I];clear I;refine k1.mono ?_;rintro r u ⟨rfl,qK⟩;have H:Hid (Bw W u):=((kH9 W.heap.size W).alloc lR _).trans (qK.mono (by simp))
 have H3:Hid (u.heap[w.heap.size]?=some (.cells #[.bool na,.slice ua un uc,.int .i64 ea] 50 (0,0))∧u.heap[w.heap.size+1]?=some (.cells #[.bool false,.slice none 0 0,.int .i64 0] 50 (0,0))∧w.heap.size+1+1≤u.heap.size∧Bw w u):=⟨qQ0 L.out.2.2.1 H.out (by have:=L.out.2.1;omega),qQ0 L.out.2.2.2 H.out (by have:=L.out.2.1;omega),by have:=H.out.size;have:=L.out.2.1;omega,L.out.1.trans (H.out.mono L.out.1.size)⟩
 clear k1 qK;have HK:Hid (∀ w',Below (w.heap.size+1) u w'→(w'.cell? ⟨w.heap.size,0,none⟩=some (.bool na)∧w'.cell? ⟨w.heap.size,1,none⟩=some (.slice ua un uc)∧w'.cell? ⟨w.heap.size,2,none⟩=some (.int .i64 ea))):=fun w' C=>(qQ3 (qQ0 H3.out.1 C ω)).1;have kC:∀ w4,Bw u w4→Calls Tryz.prog 129 #[.slice ua un uc] w4 fun r w'=>∃ ao n cap,r=.returned (.slice ao n cap)∧Own w' u.heap.size (.slice ao n cap) x∧Bw u w':=fun w4 C =>
  (qC5 ((HI.out.1.later H3.out.2.2.2).later C) (by have:=HI.out.2;omega)).mono fun r w' ⟨v,e1,o1,o2⟩=>by
   obtain⟨ao,cap,rfl,-,-,-⟩:=o1.is;exact⟨_,_,_,e1,o1.mono C.size,C.trans (o2.mono C.size)⟩
 have qJ:Bw u u.drew:=bR.drew;have F:Below (w.heap.size+1) u u.drew:=bR.drew;have H1:Hid (w.heap.size+1≤u.heap.size):=(by have:=H3.out.2.2.1;omega:w.heap.size+1≤u.heap.size)
 go_upto_region 3 with fail
 go_region_held3 (fun w'=>w'.cell? ⟨w.heap.size,0,none⟩=some (.bool na)∧w'.cell? ⟨w.heap.size,1,none⟩=some (.slice ua un uc)∧w'.cell? ⟨w.heap.size,2,none⟩=some (.int .i64 ea)) (first|(with_reducible assumption)|exact HK.out _ F|(refine HK.out _ (Below.mono ?_ H1.out);with_reducible assumption)|(refine HK.out _ (qQ4 (Below.mono J H1.out) lR _ _ _))|go_keep)
  (first|(go_at_call 129;refine(kC _ (by first|(with_reducible assumption)|exact qJ)).mono ?_;rintro r w5 ⟨qV,n5,D,rfl,qZ,J⟩;have Y:=qQ0 H3.out.2.1 J (by have:=H3.out.2.2.1;omega);obtain⟨⟨x1,x2,x3⟩,x4,x5,x6⟩:=qQ3 Y))
 have HF:Hid (Bw u w5∧Own w5 u.heap.size (.slice qV n5 D) x∧w5.heap[w.heap.size+1]?=some (.cells #[.bool false,.slice none 0 0,.int .i64 0] 50 (0,0))):=⟨J,qZ,Y⟩;clear qZ J Y x1 x2 x3 x4 x5 x6 kC HK qJ F
 go_wp2;refine kB8 (kM2 rfl _ _ (w.heap.size+1) 50 #[.bool false,.slice qV n5 D,.int .i64 ea] (0,0) _ rfl (qX8 _ _ _ HF.out.2.2) Tryz.underlying50 rfl Tryz.info50) rfl ?_;obtain⟨-,-,q2,q1⟩:=H3.out;exact⟨_,rfl,(qU6 HF.out.2.1 ω _ _ _).mono ω,qQ4 (q1.trans (HF.out.1.mono q1.size)) ω _ _ _⟩
theorem xE5 (na:Bool) (ua:Option Addr) (un uc x:Nat) (ea:Int) (nn:Bool) (w:World)
  (L:∀ W g,Bw w W→W.heap[g]?=some (.cells #[.bool na,.slice ua un uc,.int .i64 ea] 50 (0,0))→Calls Tryz.prog 128 #[.slice (some ⟨g,0,none⟩) 1 1] W fun r w'=>r=.returned (.bool true)∧Bw W w')
  (kN:∀ W,Bw w W→Calls Tryz.prog 178 #[.agg #[.bool na,.slice ua un uc,.int .i64 ea]] W fun r w'=>∃ v,r=.returned (.agg #[.bool nn,v,.int .i64 ea])∧Own w' W.heap.size v x∧Bw W w') :
  Calls Tryz.prog 123 #[.agg #[.bool na,.slice ua un uc,.int .i64 ea]] w fun r w'=>∃ v,r=.returned (.agg #[.bool nn,v,.int .i64 ea])∧Own w' w.heap.size v x∧Bw w w':=by
 obtain⟨W,D⟩:=eE ((w.alloc (.cells #[.bool na,.slice ua un uc,.int .i64 ea] 50)).alloc (.cells #[.bool false,.slice none 0 0,.int .i64 0] 50));have Y:Bw w W:=by rw[D];exact(bR.alloc lR _).alloc (by simp) _
 have I:W.heap[w.heap.size]?=some (.cells #[.bool na,.slice ua un uc,.int .i64 ea] 50 (0,0)):=by
  rw[D,Below.heap_alloc _ _ _ (by simp)];exact kB7 _ _
 have C:W.heap[w.heap.size+1]?=some (.cells #[.bool false,.slice none 0 0,.int .i64 0] 50 (0,0)):=by
  have:=kB7 (w.alloc (.cells #[.bool na,.slice ua un uc,.int .i64 ea] 50)) (.cells #[.bool false,.slice none 0 0,.int .i64 0] 50)
  rw[D];simpa using this
 have J:W.heap.size=w.heap.size+1+1:=by rw[D];simp
 have k1:=L (W.alloc (.cells #[.bool na,.slice ua un uc,.int .i64 ea] 50)) (w.heap.size+1+1) (Y.alloc Y.size _) (by rw[←J];exact kB7 _ _)
 have H:Hid (Bw w W∧W.heap.size=w.heap.size+1+1∧W.heap[w.heap.size]?=some (.cells #[.bool na,.slice ua un uc,.int .i64 ea] 50 (0,0))∧W.heap[w.heap.size+1]?=some (.cells #[.bool false,.slice none 0 0,.int .i64 0] 50 (0,0))):=⟨Y,J,I,C⟩;have qZ:Hid _:=kN;clear Y J I C L kN
 go_enter Tryz.func123,Tryz.ntmps123
 go_wp2_with fail;rw[←D];clear D;refine k1.mono ?_;rintro r T ⟨rfl,qQ⟩;have u:Hid (Bw W T):=((kH9 W.heap.size W).alloc lR _).trans (qQ.mono (by simp))
 have F:Hid (Bw w T):=H.out.1.trans (u.out.mono H.out.1.size);obtain⟨⟨a0,a1,a2⟩,-⟩:=qQ3 (qQ0 H.out.2.2.1 u.out (by have:=H.out.2.1;omega))
 have k2:=qZ.out T F.out;clear k1 qQ
 go_wp2_with fail;refine k2.mono ?_;rintro r w2 ⟨v,rfl,ho,V⟩;obtain⟨ao,cap,rfl,-,-,-⟩:=ho.is;generalize dlen x=n2 at *;have HC:Hid (w2.heap[w.heap.size+1]?=some (.cells #[.bool false,.slice none 0 0,.int .i64 0] 50 (0,0))):=qQ0 H.out.2.2.2 (u.out.trans (V.mono u.out.size)) (by have:=H.out.2.1;omega)
 have HF:Hid (Own w2 T.heap.size (.slice ao n2 cap) x∧Bw w w2∧w.heap.size+1<T.heap.size):=⟨ho,F.out.trans (V.mono F.out.size),by have:=u.out.size;have:=H.out.2.1;omega⟩
 obtain⟨⟨x1,x2,x3⟩,x4,x5,x6⟩:=qQ3 HC.out;clear k2 ho V a0 a1 a2
 go_wp2;refine kB8 (kM2 rfl _ _ (w.heap.size+1) 50 #[.bool nn,.slice ao n2 cap,.int .i64 ea] (0,0) _ rfl (qX8 _ _ _ HC.out) Tryz.underlying50 rfl Tryz.info50) rfl ?_;exact⟨_,rfl,(qU6 HF.out.1 HF.out.2.2 _ _ _).mono (by have:=HF.out.2.2;omega),qQ4 HF.out.2.1 ω _ _ _⟩
theorem kV3 {na:Bool} {ua:Option Addr} {uc x:Nat} {ea:Int} {w:World} (Y:Is w (.slice ua (dlen x) uc) x) (hx:dlen x≤1000000) (u:okN na (dlen x) x ea=true) :
  Ca 61 #[.agg (Nu na ua (dlen x) uc ea)] w fun r w'=>∃ v,r=.returned (.agg #[.bool false,v,iV ea])∧Own w' w.heap.size v x∧Bw w w' :=
 abs_1 na ua _ uc x ea w Y hx (fun W g V J=>by
  have:=zQ0 J (Y.later V) ω
  rw[u] at this;exact this)
theorem xU4 {na:Bool} {ua:Option Addr} {uc x:Nat} {ea:Int} {w:World} (J:Is w (.slice ua (dlen x) uc) x) (hx:dlen x≤1000000) (u:okN na (dlen x) x ea=true) :
  Ca 123 #[.agg (Nu na ua (dlen x) uc ea)] w fun r w'=>∃ v,r=.returned (.agg #[.bool (!na&&decide (0<dlen x)),v,iV ea])∧Own w' w.heap.size v x∧Bw w w' :=
 xE5 na ua _ uc x ea _ w (fun W g Y V=>by
  have:=zQ0 V (J.later Y) ω
  rw[u] at this;exact this) (fun W Y=>yI5 (J.later Y) ω)
theorem sub_no (na nb:Bool) (ua F:Option Addr) (un uc V H:Nat) (ea eb:Int) (w:World)
  (D:∀ W g,Bw w W→W.heap[g]?=some (.cells #[.bool na,.slice ua un uc,iV ea,.bool nb,.slice F V H,iV eb] 50 (0,0))→Ca 128 #[.slice (some ⟨g,0,none⟩) 2 2] W (Rq W (.bool false))) :
  Ca 161 #[NumV na (.slice ua un uc) ea,NumV nb (.slice F V H) eb] w (Rq w (.tuple #[Nil,iV 1])):=by
 obtain⟨W,hW⟩:=eE (((w.alloc (.cells (Nu na ua un uc ea) 50)).alloc (.cells (Nu nb F V H eb) 50)).alloc (.cells (Nu false none 0 0 0) 50));obtain⟨hA,qQ,hC,J,Y⟩:=qK9 _ _ _ hW;have T:Below w.heap.size w (W.alloc (.cells #[.bool na,.slice ua un uc,iV ea,.bool nb,.slice F V H,iV eb] 50)):=Y.alloc Y.size _;have k1:=D (W.alloc (.cells #[.bool na,.slice ua un uc,iV ea,.bool nb,.slice F V H,iV eb] 50)) (w.heap.size+1+1+1) T (by rw[←J];exact kB7 _ _)
 have C:Hid (Hn W (w.heap.size+1+1) false none 0 0 0 50∧W.heap.size=w.heap.size+1+1+1∧Bw w W∧Below W.heap.size W (W.alloc (.cells #[.bool na,.slice ua un uc,iV ea,.bool nb,.slice F V H,iV eb] 50))):=⟨hC,J,Y,bR.alloc lR _⟩;unfold NumV;clear hA qQ hC J Y T D
 go_enter Tryz.func161,Tryz.ntmps161
 go_wp2_with fail;rw[←hW];clear hW;refine k1.mono ?_;rintro r w1 ⟨rfl,L⟩;clear k1;have u:=C.out.2.2.2.trans (L.mono C.out.2.2.2.size);have I:Hid (Hn w1 (w.heap.size+1+1) false none 0 0 0 50):=qQ0 C.out.1 u (by have:=C.out.2.1;omega)
 have qZ:Hid _:=u;obtain⟨⟨x1,x2,x3⟩,x4,x5,x6⟩:=qQ3 I.out;clear L u
 go_wp2;refine kB8 (qQ6 rfl _ _ (w.heap.size+1+1) 50 (Nu false none 0 0 0) (0,0) _ rfl (qX8 _ _ _ I.out) Tryz.underlying50 rfl Tryz.info50) rfl ?_;obtain⟨b1,b2,b3,b4⟩:=C.out;exact⟨rfl,qQ4 (b3.trans (qZ.out.mono b3.size)) ω _ _ _⟩
theorem shift_0 (na:Bool) (ua:Option Addr) (un uc:Nat) (ea k0:Int) (w:World) (D:∀ W g,Bw w W→W.heap[g]?=some (.cells #[.bool na,.slice ua un uc,.int .i64 ea] 50 (0,0))→Calls Tryz.prog 128 #[.slice (some ⟨g,0,none⟩) 1 1] W fun r w'=>r=.returned (.bool false)∧Bw W w') :
  Calls Tryz.prog 204 #[.agg #[.bool na,.slice ua un uc,.int .i64 ea],.int .i64 k0] w fun r w'=>r=.returned (.tuple #[.agg #[.bool false,.slice none 0 0,.int .i64 0],.int .i64 1])∧Bw w w':=by
 obtain⟨W,H⟩:=eE ((w.alloc (.cells #[.bool na,.slice ua un uc,.int .i64 ea] 50)).alloc (.cells #[.bool false,.slice none 0 0,.int .i64 0] 50));have u:Bw w W:=by rw[H];exact(bR.alloc lR _).alloc (by simp) _
 have L:W.heap[w.heap.size]?=some (.cells #[.bool na,.slice ua un uc,.int .i64 ea] 50 (0,0)):=by
  rw[H,Below.heap_alloc _ _ _ (by simp)];exact kB7 _ _
 have T:W.heap[w.heap.size+1]?=some (.cells #[.bool false,.slice none 0 0,.int .i64 0] 50 (0,0)):=by
  have:=kB7 (w.alloc (.cells #[.bool na,.slice ua un uc,.int .i64 ea] 50)) (.cells #[.bool false,.slice none 0 0,.int .i64 0] 50)
  rw[H];simpa using this
 have J:W.heap.size=w.heap.size+1+1:=by rw[H];simp
 have k1:=D (W.alloc (.cells #[.bool na,.slice ua un uc,.int .i64 ea] 50)) (w.heap.size+1+1) (u.alloc u.size _) (by rw[←J];exact kB7 _ _)
 have V:Hid (Bw w W∧W.heap.size=w.heap.size+1+1∧W.heap[w.heap.size]?=some (.cells #[.bool na,.slice ua un uc,.int .i64 ea] 50 (0,0))∧W.heap[w.heap.size+1]?=some (.cells #[.bool false,.slice none 0 0,.int .i64 0] 50 (0,0))):=⟨u,J,L,T⟩;clear u J L T D
 go_enter Tryz.func204,Tryz.ntmps204
 go_wp2_with fail;rw[←H];clear H;refine k1.mono ?_;rintro r F ⟨rfl,C⟩;have Y:Hid (Bw W F):=((kH9 W.heap.size W).alloc lR _).trans (C.mono (by simp))
 have I:Hid (F.heap[w.heap.size]?=some (.cells #[.bool na,.slice ua un uc,.int .i64 ea] 50 (0,0))∧F.heap[w.heap.size+1]?=some (.cells #[.bool false,.slice none 0 0,.int .i64 0] 50 (0,0))∧w.heap.size+1+1≤F.heap.size∧Bw w F):=⟨qQ0 V.out.2.2.1 Y.out (by have:=V.out.2.1;omega),qQ0 V.out.2.2.2 Y.out (by have:=V.out.2.1;omega),by have:=Y.out.size;have:=V.out.2.1;omega,V.out.1.trans (Y.out.mono V.out.1.size)⟩
 clear k1 C;obtain⟨⟨a0,a1,a2⟩,-⟩:=qQ3 I.out.1;obtain⟨⟨x1,x2,x3⟩,x4,x5,x6⟩:=qQ3 I.out.2.1
 go_wp2;refine kB8 (qQ6 rfl _ _ (w.heap.size+1) 50 #[.bool false,.slice none 0 0,.int .i64 0] (0,0) _ rfl (qX8 _ _ _ I.out.2.1) Tryz.underlying50 rfl Tryz.info50) rfl ?_;exact⟨rfl,qQ4 I.out.2.2.2 ω _ _ _⟩
theorem xX8 (na:Bool) (ua:Option Addr) (uc:Nat) (ea k0:Int) (w:World) (D:∀ W g,Bw w W→W.heap[g]?=some (.cells #[.bool na,.slice ua 0 uc,.int .i64 ea] 50 (0,0))→Calls Tryz.prog 128 #[.slice (some ⟨g,0,none⟩) 1 1] W fun r w'=>r=.returned (.bool true)∧Bw W w') :
  Calls Tryz.prog 204 #[.agg #[.bool na,.slice ua 0 uc,.int .i64 ea],.int .i64 k0] w fun r w'=>r=.returned (.tuple #[.agg #[.bool false,.slice none 0 0,.int .i64 0],.int .i64 0])∧Bw w w':=by
 obtain⟨W,H⟩:=eE ((w.alloc (.cells #[.bool na,.slice ua 0 uc,.int .i64 ea] 50)).alloc (.cells #[.bool false,.slice none 0 0,.int .i64 0] 50));have u:Bw w W:=by rw[H];exact(bR.alloc lR _).alloc (by simp) _
 have L:W.heap[w.heap.size]?=some (.cells #[.bool na,.slice ua 0 uc,.int .i64 ea] 50 (0,0)):=by
  rw[H,Below.heap_alloc _ _ _ (by simp)];exact kB7 _ _
 have T:W.heap[w.heap.size+1]?=some (.cells #[.bool false,.slice none 0 0,.int .i64 0] 50 (0,0)):=by
  have:=kB7 (w.alloc (.cells #[.bool na,.slice ua 0 uc,.int .i64 ea] 50)) (.cells #[.bool false,.slice none 0 0,.int .i64 0] 50)
  rw[H];simpa using this
 have J:W.heap.size=w.heap.size+1+1:=by rw[H];simp
 have k1:=D (W.alloc (.cells #[.bool na,.slice ua 0 uc,.int .i64 ea] 50)) (w.heap.size+1+1) (u.alloc u.size _) (by rw[←J];exact kB7 _ _)
 have V:Hid (Bw w W∧W.heap.size=w.heap.size+1+1∧W.heap[w.heap.size]?=some (.cells #[.bool na,.slice ua 0 uc,.int .i64 ea] 50 (0,0))∧W.heap[w.heap.size+1]?=some (.cells #[.bool false,.slice none 0 0,.int .i64 0] 50 (0,0))):=⟨u,J,L,T⟩;clear u J L T D
 go_enter Tryz.func204,Tryz.ntmps204
 go_wp2_with fail;rw[←H];clear H;refine k1.mono ?_;rintro r F ⟨rfl,C⟩;have Y:Hid (Bw W F):=((kH9 W.heap.size W).alloc lR _).trans (C.mono (by simp))
 have I:Hid (F.heap[w.heap.size]?=some (.cells #[.bool na,.slice ua 0 uc,.int .i64 ea] 50 (0,0))∧F.heap[w.heap.size+1]?=some (.cells #[.bool false,.slice none 0 0,.int .i64 0] 50 (0,0))∧w.heap.size+1+1≤F.heap.size∧Bw w F):=⟨qQ0 V.out.2.2.1 Y.out (by have:=V.out.2.1;omega),qQ0 V.out.2.2.2 Y.out (by have:=V.out.2.1;omega),by have:=Y.out.size;have:=V.out.2.1;omega,V.out.1.trans (Y.out.mono V.out.1.size)⟩
 clear k1 C;obtain⟨⟨a0,a1,a2⟩,-⟩:=qQ3 I.out.1;obtain⟨⟨x1,x2,x3⟩,x4,x5,x6⟩:=qQ3 I.out.2.1
 go_wp2;refine kB8 (qQ6 rfl _ _ (w.heap.size+1) 50 #[.bool false,.slice none 0 0,.int .i64 0] (0,0) _ rfl (qX8 _ _ _ I.out.2.1) Tryz.underlying50 rfl Tryz.info50) rfl ?_;exact⟨rfl,qQ4 I.out.2.2.2 ω _ _ _⟩
theorem shift_2 (na:Bool) (ua:Option Addr) (un uc:Nat) (ea k0:Int) (w:World) (hn:un≤35184372088832) (qQ:((un:Int)==0)=false) (qK : -65536≤ea) (qX:ea≤65536) (hk:k0 < -65536 - ea∨65536 - ea<k0) (T:∀ W g,Bw w W→W.heap[g]?=some (.cells #[.bool na,.slice ua un uc,.int .i64 ea] 50 (0,0))→Calls Tryz.prog 128 #[.slice (some ⟨g,0,none⟩) 1 1] W fun r w'=>r=.returned (.bool true)∧Bw W w') :
  Calls Tryz.prog 204 #[.agg #[.bool na,.slice ua un uc,.int .i64 ea],.int .i64 k0] w fun r w'=>r=.returned (.tuple #[.agg #[.bool false,.slice none 0 0,.int .i64 0],.int .i64 2])∧Bw w w':=by
 obtain⟨W,H⟩:=eE ((w.alloc (.cells #[.bool na,.slice ua un uc,.int .i64 ea] 50)).alloc (.cells #[.bool false,.slice none 0 0,.int .i64 0] 50));have u:Bw w W:=by rw[H];exact(bR.alloc lR _).alloc (by simp) _
 have C:W.heap[w.heap.size]?=some (.cells #[.bool na,.slice ua un uc,.int .i64 ea] 50 (0,0)):=by
  rw[H,Below.heap_alloc _ _ _ (by simp)];exact kB7 _ _
 have L:W.heap[w.heap.size+1]?=some (.cells #[.bool false,.slice none 0 0,.int .i64 0] 50 (0,0)):=by
  have:=kB7 (w.alloc (.cells #[.bool na,.slice ua un uc,.int .i64 ea] 50)) (.cells #[.bool false,.slice none 0 0,.int .i64 0] 50)
  rw[H];simpa using this
 have J:W.heap.size=w.heap.size+1+1:=by rw[H];simp
 have k1:=T (W.alloc (.cells #[.bool na,.slice ua un uc,.int .i64 ea] 50)) (w.heap.size+1+1) (u.alloc u.size _) (by rw[←J];exact kB7 _ _)
 have V:Hid (Bw w W∧W.heap.size=w.heap.size+1+1∧W.heap[w.heap.size]?=some (.cells #[.bool na,.slice ua un uc,.int .i64 ea] 50 (0,0))∧W.heap[w.heap.size+1]?=some (.cells #[.bool false,.slice none 0 0,.int .i64 0] 50 (0,0))):=⟨u,J,C,L⟩;clear u J C L T
 go_enter Tryz.func204,Tryz.ntmps204
 go_wp2_with fail;rw[←H];clear H;refine k1.mono ?_;rintro r D ⟨rfl,I⟩;have Y:Hid (Bw W D):=((kH9 W.heap.size W).alloc lR _).trans (I.mono (by simp))
 have F:Hid (D.heap[w.heap.size]?=some (.cells #[.bool na,.slice ua un uc,.int .i64 ea] 50 (0,0))∧D.heap[w.heap.size+1]?=some (.cells #[.bool false,.slice none 0 0,.int .i64 0] 50 (0,0))∧w.heap.size+1+1≤D.heap.size∧Bw w D):=⟨qQ0 V.out.2.2.1 Y.out (by have:=V.out.2.1;omega),qQ0 V.out.2.2.2 Y.out (by have:=V.out.2.1;omega),by have:=Y.out.size;have:=V.out.2.1;omega,V.out.1.trans (Y.out.mono V.out.1.size)⟩
 clear k1 I;obtain⟨⟨a0,a1,a2⟩,-⟩:=qQ3 F.out.1;obtain⟨⟨x1,x2,x3⟩,x4,x5,x6⟩:=qQ3 F.out.2.1;by_cases qY:k0 < -65536 - ea
 ·clear hk
  go_wp2;refine kB8 (qQ6 rfl _ _ (w.heap.size+1) 50 #[.bool false,.slice none 0 0,.int .i64 0] (0,0) _ rfl (qX8 _ _ _ F.out.2.1) Tryz.underlying50 rfl Tryz.info50) rfl ?_;exact⟨rfl,qQ4 F.out.2.2.2 ω _ _ _⟩
 ·have qZ:65536 - ea<k0:=ω;clear hk
  go_wp2;refine kB8 (qQ6 rfl _ _ (w.heap.size+1) 50 #[.bool false,.slice none 0 0,.int .i64 0] (0,0) _ rfl (qX8 _ _ _ F.out.2.1) Tryz.underlying50 rfl Tryz.info50) rfl ?_;exact⟨rfl,qQ4 F.out.2.2.2 ω _ _ _⟩
theorem xX7 (na:Bool) (ua:Option Addr) (un uc:Nat) (ea k0:Int) (w:World) (x:Nat) (h1:Is w (.slice ua un uc) x) (hx:dlen x≤1000000) (hn:un≤35184372088832) (qU:((un:Int)==0)=false) (qB : -65536≤ea) (qF:ea≤65536) (qH:¬ k0 < -65536 - ea) (qG:¬ 65536 - ea<k0) (qQ:∀ W g,Bw w W→W.heap[g]?=some (.cells #[.bool na,.slice ua un uc,.int .i64 ea] 50 (0,0))→Calls Tryz.prog 128 #[.slice (some ⟨g,0,none⟩) 1 1] W fun r w'=>r=.returned (.bool true)∧Bw W w') :
  Calls Tryz.prog 204 #[.agg #[.bool na,.slice ua un uc,.int .i64 ea],.int .i64 k0] w fun r w'=>∃ v,r=.returned (.tuple #[.agg #[.bool na,v,.int .i64 (ea+k0)],.int .i64 0])∧Own w' w.heap.size v x∧Bw w w':=by
 obtain⟨W,hW⟩:=eE ((w.alloc (.cells #[.bool na,.slice ua un uc,.int .i64 ea] 50)).alloc (.cells #[.bool false,.slice none 0 0,.int .i64 0] 50));have H:Bw w W:=by rw[hW];exact(bR.alloc lR _).alloc (by simp) _
 have qX:W.heap[w.heap.size]?=some (.cells #[.bool na,.slice ua un uc,.int .i64 ea] 50 (0,0)):=by
  rw[hW,Below.heap_alloc _ _ _ (by simp)];exact kB7 _ _
 have qY:W.heap[w.heap.size+1]?=some (.cells #[.bool false,.slice none 0 0,.int .i64 0] 50 (0,0)):=by
  have:=kB7 (w.alloc (.cells #[.bool na,.slice ua un uc,.int .i64 ea] 50)) (.cells #[.bool false,.slice none 0 0,.int .i64 0] 50)
  rw[hW];simpa using this
 have L:W.heap.size=w.heap.size+1+1:=by rw[hW];simp
 have k1:=qQ (W.alloc (.cells #[.bool na,.slice ua un uc,.int .i64 ea] 50)) (w.heap.size+1+1) (H.alloc H.size _) (by rw[←L];exact kB7 _ _)
 have C:Hid (Bw w W∧W.heap.size=w.heap.size+1+1∧W.heap[w.heap.size]?=some (.cells #[.bool na,.slice ua un uc,.int .i64 ea] 50 (0,0))∧W.heap[w.heap.size+1]?=some (.cells #[.bool false,.slice none 0 0,.int .i64 0] 50 (0,0))):=⟨H,L,qX,qY⟩;have HI:Hid (Is w (.slice ua un uc) x∧dlen x≤1000000):=⟨h1,hx⟩;clear h1 hx;clear H L qX qY qQ
 go_enter Tryz.func204,Tryz.ntmps204
 go_wp2_with fail;rw[←hW];clear hW;refine k1.mono ?_;rintro r u ⟨rfl,qK⟩;have F:Hid (Bw W u):=((kH9 W.heap.size W).alloc lR _).trans (qK.mono (by simp))
 have J:Hid (u.heap[w.heap.size]?=some (.cells #[.bool na,.slice ua un uc,.int .i64 ea] 50 (0,0))∧u.heap[w.heap.size+1]?=some (.cells #[.bool false,.slice none 0 0,.int .i64 0] 50 (0,0))∧w.heap.size+1+1≤u.heap.size∧Bw w u):=⟨qQ0 C.out.2.2.1 F.out (by have:=C.out.2.1;omega),qQ0 C.out.2.2.2 F.out (by have:=C.out.2.1;omega),by have:=F.out.size;have:=C.out.2.1;omega,C.out.1.trans (F.out.mono C.out.1.size)⟩
 clear k1 qK;obtain⟨⟨a0,a1,a2⟩,-⟩:=qQ3 J.out.1;obtain⟨⟨x1,x2,x3⟩,x4,x5,x6⟩:=qQ3 J.out.2.1;have HK:Hid (∀ w',Below (w.heap.size+1) u w'→(w'.cell? ⟨w.heap.size,0,none⟩=some (.bool na)∧w'.cell? ⟨w.heap.size,1,none⟩=some (.slice ua un uc)∧w'.cell? ⟨w.heap.size,2,none⟩=some (.int .i64 ea))):=fun w' I=>(qQ3 (qQ0 J.out.1 I ω)).1;have kC:∀ w4,Bw u w4→Calls Tryz.prog 129 #[.slice ua un uc] w4 fun r w'=>∃ ao n cap,r=.returned (.slice ao n cap)∧Own w' u.heap.size (.slice ao n cap) x∧Bw u w':=fun w4 I =>
  (qC5 ((HI.out.1.later J.out.2.2.2).later I) (by have:=HI.out.2;omega)).mono fun r w' ⟨v,e1,o1,o2⟩=>by
   obtain⟨ao,cap,rfl,-,-,-⟩:=o1.is;exact⟨_,_,_,e1,o1.mono I.size,I.trans (o2.mono I.size)⟩
 have qJ:Bw u u.drew:=bR.drew;have D:Below (w.heap.size+1) u u.drew:=bR.drew;have H1:Hid (w.heap.size+1≤u.heap.size):=(by have:=J.out.2.2.1;omega:w.heap.size+1≤u.heap.size)
 have HZ:Hid (IntKind.i64.wrap (ea+k0)=ea+k0):=(by rw[kB5];omega:IntKind.i64.wrap (ea+k0)=ea+k0)
 go_upto_region 8 with fail;clear x1 x2 x3 x4 x5 x6
 go_region_held3 (fun w'=>w'.cell? ⟨w.heap.size,0,none⟩=some (.bool na)∧w'.cell? ⟨w.heap.size,1,none⟩=some (.slice ua un uc)∧w'.cell? ⟨w.heap.size,2,none⟩=some (.int .i64 ea)) (first|(with_reducible assumption)|exact HK.out _ D|(refine HK.out _ (Below.mono ?_ H1.out);with_reducible assumption)|(refine HK.out _ (qQ4 (Below.mono V H1.out) lR _ _ _))|go_keep)
  (first|(go_at_call 129;refine(kC _ (by first|(with_reducible assumption)|exact qJ)).mono ?_;rintro r w5 ⟨qV,n5,T,rfl,qZ,V⟩;have Y:=qQ0 J.out.2.1 V (by have:=J.out.2.2.1;omega);obtain⟨⟨x1,x2,x3⟩,x4,x5,x6⟩:=qQ3 Y))
 all_goals (have HF:Hid (Bw u w5∧Own w5 u.heap.size (.slice qV n5 T) x∧w5.heap[w.heap.size+1]?=some (.cells #[.bool false,.slice none 0 0,.int .i64 0] 50 (0,0))):=⟨V,qZ,Y⟩;clear qZ V Y x1 x2 x3 x4 x5 x6 kC HK qJ D a0 a1 a2;(try rw[HZ.out]);go_wp2;refine kB8 (qQ6 rfl _ _ (w.heap.size+1) 50 #[.bool na,.slice qV n5 T,.int .i64 (ea+k0)] (0,0) _ rfl (qX8 _ _ _ HF.out.2.2) Tryz.underlying50 rfl Tryz.info50) rfl ?_;exact⟨_,rfl,(qU6 HF.out.2.1 (by have:=J.out.2.2.1;omega) _ _ _).mono (by have:=J.out.2.2.1;omega),qQ4 (J.out.2.2.2.trans (HF.out.1.mono J.out.2.2.2.size)) ω _ _ _⟩)
theorem rsgn {na:Bool} {ua:Option Addr} {un uc:Nat} {ea:Int} {w:World} (H:un≤35184372088832) :
  Ca 47 #[.agg (Nu na ua un uc ea)] w (Rq w (iV (if un=0 then 0 else if na then -1 else 1))):=by
 obtain⟨W,u⟩:=eE (w.alloc (.cells (Nu na ua un uc ea) 54));have J:Hid (Bw w W):=(by rw[u];exact bR.alloc lR _:Bw w W)
 by_cases Y:un=0
 ·subst Y;rw[kU6 rfl]
  go_enter Tryz.func47,Tryz.ntmps47
  go_wp2
  go_ret;exact⟨rfl,u ▸ J.out⟩
 ·have V:((un:Int)==0)=false:=by simp;omega
  rw[kU5 Y];clear Y;cases na
  ·go_enter Tryz.func47,Tryz.ntmps47
   go_wp2
   go_ret;exact⟨rfl,u ▸ J.out⟩
  ·go_enter Tryz.func47,Tryz.ntmps47
   go_wp2
   go_ret;exact⟨rfl,u ▸ J.out⟩
end Go.Proofs.YtfkaogdmlcdceaaGreatDoor
namespace Go.Proofs.YtfkaogdmlcdceaaGreatDoor
open Go.RowKit Go.Fl64
attribute [local go_sem] iV Nu
end Go.Proofs.YtfkaogdmlcdceaaGreatDoor
namespace Go.Proofs.YtfkaogdmlcdceaaGreatDoor
open Go.RowKit
attribute [local go_sem] iV Nu
end Go.Proofs.YtfkaogdmlcdceaaGreatDoor
namespace Go.Proofs.YtfkaogdmlcdceaaGreatDoor
open Go.RowKit Go.Fl64
attribute [local go_sem] iV Nu
end Go.Proofs.YtfkaogdmlcdceaaGreatDoor
namespace Go.Proofs.YtfkaogdmlcdceaaGreatDoor
open Go.RowKit
attribute [local go_sem] iV Nu
theorem yV0 {x i d:Nat} (J:dg x i=d):x % B^(i+1)=0↔(x % B^i=0∧d=0):=by
 have h:=Nat.mod_pow_succ (x:=x) (b:=B) (k:=i);have H:0<B^i:=kH1 qG6;unfold dg at J;rw[h,J];constructor
 ·intro u;obtain⟨u,Y⟩:=Nat.add_eq_zero_iff.1 u;rcases Nat.mul_eq_zero.1 Y with V|V
  ·omega
  ·exact⟨u,V⟩
 ·rintro⟨u,Y⟩
  rw[u,Y];rfl
theorem xH8 {x k u Y d:Nat} (C:k / 32=u) (I:k % 32=Y) (L:dg x u=d):x % 2^k=0↔(x % B^u=0∧d % 2^Y=0):=by
 have W:B^u=2^(32*u):=by rw[show B=2^32 by rfl,←Nat.pow_mul]
 have T:2^k=B^u*2^Y:=by rw[W,←kN3];congr 1;omega
 have F:0<B^u:=kH1 qG6;have V:d % 2^Y=x / B^u % 2^Y:=by
  rw[←L];unfold dg;exact Nat.mod_mod_of_dvd _ (by rw[show B=2^32 by rfl];exact Nat.pow_dvd_pow 2 ω)
 rw[T,Nat.mod_mul,V];constructor
 ·intro J;obtain⟨J,H⟩:=Nat.add_eq_zero_iff.1 J;rcases Nat.mul_eq_zero.1 H with D|D
  ·omega
  ·exact⟨J,D⟩
 ·rintro⟨J,H⟩
  rw[J,H];rfl
theorem yV2 {x k n:Nat} (u:dlen x≤n) (J:n≤k / 32):(x % B^n=0↔x % 2^k=0)∧x / 2^k=0:=by
 have Y:=kF6 (qY5 x) (kF4 qG6 u);have V:B^n≤2^k:=by rw[show B=2^32 by rfl,←Nat.pow_mul];exact kF4 ω ω
 rw[kB2 Y,kB2 ω];exact⟨Iff.rfl,Nat.div_eq_of_lt ω⟩
theorem xH9 {d u:Nat} (V:d<B) (J:u<32):(bits BinOp.and IntKind.u32 (d:Int) ((2^u - 1) % 4294967296)==0)=decide (d % 2^u=0):=by
 have F:2^u<2^32:=Nat.pow_lt_pow_right ω J;have Y:=kF3 u;have H:(((2:Int)^u - 1) % 4294967296)=((2^u - 1:Nat):Int):=by
  have:((2:Int)^u)=((2^u:Nat):Int):=by simp
  rw[this];omega
 rw[H,u32_and_nat d (2^u - 1) (by unfold B at V;omega) ω,Nat.and_two_pow_sub_one_eq_mod]
 generalize d % 2^u=r;by_cases h:r=0
 ·rw[h];simp
 ·rw[kF1 h];have:((r:Nat):Int)≠0:=ω
  simpa using this
theorem yV1 {a:Value} {b c:Bool} (h:b=c):Ending.returned (Value.tuple #[a,.bool b])=.returned (.tuple #[a,.bool c]):=by rw[h]
theorem yR7 {x k i d u:Nat} (Y:false=true↔x % B^i=0) (hx:x % 2^k=0↔(x % B^i=0∧d % 2^u=0)):false=decide (x % 2^k=0):=by
 rw[kF1];intro h;exact absurd (Y.2 (hx.1 h).1) δ
theorem xH7 {x k i d u:Nat} (J:True↔x % B^i=0) (hx:x % 2^k=0↔(x % B^i=0∧d % 2^u=0)) (H:d=dg x i) (V:d<B) (Y:u<32):(bits BinOp.and IntKind.u32 ((dg x i:Nat):Int) ((2^u - 1) % 4294967296)==0)=decide (x % 2^k=0):=by
 rw[←H,xH9 V Y];refine decide_eq_decide.2 ?_;rw[hx];exact⟨fun h=>⟨J.1 trivial,h⟩,fun h=>h.2⟩
theorem zY2 {x i d:Nat} {u:Bool} (h:u=true↔x % B^i=0) (Y:x % B^(i+1)=0↔(x % B^i=0∧d=0)):((u&&((d:Int)==0))=true)↔x % B^(i+1)=0:=by
 rw[Y,←h];simp
theorem xW9 (b o cap m Y V x k:Nat) (w:World) (qT:0<m) (hm:m≤17592186044416) (hk:k≤1099511627776) (qS:Y+m≤cap) (qQ:k / 32=Y) (qZ:k % 32=V)
  (hn:dlen x=Y+m) (J:∀ i,i<Y+m→w.cell? ⟨b,o+i,none⟩=some (.int .u32 (dg x i:Nat))) :
  Calls Tryz.prog 112 #[.slice (some ⟨b,o,none⟩) (Y+m:Nat) cap,.int .i64 k] w fun e w'=>∃ ao H,e=.returned (.tuple #[.slice ao (dlen (x / 2^k)) H,.bool (decide (x % 2^k=0))])∧At w' ao (dlen (x / 2^k)) (x / 2^k)∧dlen (x / 2^k)≤H∧Bw w w':=by
 have hq:(k:Int).tdiv 32=((k / 32:Nat):Int):=by rw[kG6 ω];rfl
 have hr:(k:Int).tmod 32=((k % 32:Nat):Int):=by rw[Int.tmod_eq_emod_of_nonneg ω];rfl
 have qR:Y≤1099511627776:=ω;have qG:V<32:=ω;rw[qQ] at hq;rw[qZ] at hr;have HN:Hid (dlen x=Y+m):=hn;have HW:Hid (k / 32=Y):=qQ;have HP:Hid (k % 32=V):=qZ;clear hn qQ qZ;have qH:(Y:Int)<((Y+m:Nat):Int):=ω
 go_enter Tryz.func112,Tryz.ntmps112
 go_wp2
 go_loop [6,7] (fun a v=>∃ (bb:Bool) (i:Nat),a=.bool bb∧v=.int .i64 (i:Int)∧i≤Y∧Hid (bb=true↔x % B^i=0)) (fun _ v=>Y - (intOf v).toNat)
 case atStart=>exact⟨true,0,rfl,rfl,kB4 _,(by rw[kN7,Nat.mod_one];simp:true=true↔x % B^0=0)⟩
 case round =>
  obtain⟨bb,i,rfl,rfl,hi,HE⟩:=hrel;by_cases qB:i<Y
  ·have g1:=J i ω;have HS:Hid (x % B^(i+1)=0↔(x % B^i=0∧dg x i=0)):=yV0 rfl;generalize dg x i=d at *;have qC:(i:Int)<(Y:Int):=ω;clear J;cases bb
   ·go_wp2;exact⟨⟨_,i+1,rfl,by simp,ω,zY2 HE.out HS.out⟩,by simp[intOf];omega⟩
   ·go_wp2;exact⟨⟨_,i+1,rfl,by simp,ω,zY2 HE.out HS.out⟩,by simp[intOf];omega⟩
  ·obtain rfl:i=Y:=ω;clear qB hi;have HX:Hid (x % 2^k=0↔(x % B^i=0∧dg x i % 2^V=0)):=xH8 HW.out HP.out rfl;have g0:=J i ω;have qV:Hid (dg x i<B):=qX1 _ _;have HQ:Hid (dg x i=dg x i):=rfl;obtain⟨d0,qK⟩:=eE (dg x i);rw[←qK] at g0 HX qV;clear HQ;have qP:Hid (d0=dg x i):=qK;clear qK;have HC:Hid (∀ L:Nat,L<i+m→w.cell? { block:=b,off:=o+L }=some (Value.int IntKind.u32 ↑(dg x L))):=J;cases bb
   all_goals
    go_wp2_with fail;clear hq qH hr J g0
    go_loopw [9,10] (fun v c wr=>∃ j:Nat,j≤m∧c=.int .i64 ((i:Int)+j)∧wr.ownsRow w.heap.size 96 1 v j (cells (x / 2^k) j)∧Bw w wr) (fun _ c _=>m - (intOf c - i).toNat)
    case atStart=>exact⟨0,kB4 _,by simp,World.ownsRow_nil ..,kH9 _ _⟩
    case round =>
     obtain⟨j,hj,rfl,ho,T⟩:=hrel;have HO:Hid (wr.ownsRow w.heap.size 96 1 u9 j (cells (x / 2^k) j)):=ho;have HB:Hid (Bw w wr):=T;have qE:w.heap.size≤wr.heap.size:=T.size;by_cases qL:j+1<m
     ·have g1:=(T.cell (World.block_lt_of_cell? _ _ (HC.out (i+j) ω))).trans (HC.out (i+j) ω);have g4:=(T.cell (World.block_lt_of_cell? _ _ (HC.out (i+j+1) ω))).trans (HC.out (i+j+1) ω);have qF:(j:Int)+1<(m:Int):=ω;generalize hd:dg x (i+j)=d at *;generalize qX:dg x (i+j+1)=d1 at *;have HD:Hid (dg x (i+j)=d):=hd;have qM:Hid (dg x (i+(j+1))=d1):=qX;have HL:Hid (d<B∧d1<B):=⟨hd ▸ qX1 _ _,qX ▸ qX1 _ _⟩;clear hd qX T;obtain⟨i0,qY,I,C,W⟩:=info_parts Tryz.info96
      go_wp2_with (at_builtin;refine wpList_append_own _ rfl _ _ 48 rfl w.heap.size 96 i0 (.int .u32 0) 1 4 Tryz.underlying48 qY I C W rfl δ _ _ _ rfl (ho.alloc _) ⟨wr.heap.size,0,none⟩ 1 1 [.int .u32 (bits BinOp.or IntKind.u64 (IntKind.u64.wrap (d:Int)) (IntKind.u64.wrap (IntKind.u64.wrap (d1:Int)*4294967296)) / 2^V % 4294967296)] rfl rfl (cell_one_new _ _ _) (by intro u hu;simp at hu;subst hu;rfl) (by unfold maxLen;omega) ω (by simp;omega) ?_)
      intro v' w4 F D _
      go_wp2;exact qS9 (by rw[qS3 HL.out.1 HL.out.2,qG0 HW.out HP.out,HD.out,qM.out]) ω HB.out HO.out F D
     ·by_cases qW:j<m
      ·have g1:=(T.cell (World.block_lt_of_cell? _ _ (HC.out (i+j) ω))).trans (HC.out (i+j) ω);have qF:¬ (j:Int)+1<(m:Int):=ω;have qD:(j:Int)<(m:Int):=ω;generalize hd:dg x (i+j)=d at *;have HD:Hid (dg x (i+j)=d):=hd;have HL:Hid (d<B):=hd ▸ qX1 _ _;have HZ:Hid (dg x (i+(j+1))=0):=qK7 (by rw[HN.out];omega)
       clear hd T;obtain⟨i0,qY,I,C,W⟩:=info_parts Tryz.info96
       go_wp2_with (at_builtin;refine wpList_append_own _ rfl _ _ 48 rfl w.heap.size 96 i0 (.int .u32 0) 1 4 Tryz.underlying48 qY I C W rfl δ _ _ _ rfl (ho.alloc _) ⟨wr.heap.size,0,none⟩ 1 1 [.int .u32 (IntKind.u64.wrap (d:Int) / 2^V % 4294967296)] rfl rfl (cell_one_new _ _ _) (by intro u hu;simp at hu;subst hu;rfl) (by unfold maxLen;omega) ω (by simp;omega) ?_)
       intro v' w4 F D _
       go_wp2;exact qS9 (by rw[qS4 HL.out,qG0 HW.out HP.out,HD.out,HZ.out,Nat.zero_mul,kH7]) ω HB.out HO.out F D
      ·obtain rfl:j=m:=ω;have hL:=zZ8 (k:=k) (m:=j) (by rw[HW.out];exact HN.out)
       obtain⟨qJ,H,rfl,qN,hA⟩:=qV4 ho;have HA:Hid (At wr qJ (dlen (x / 2^k)) (x / 2^k)∧dlen (x / 2^k)≤H):=⟨qF0 hA hL,ω⟩;have qU:=r40 qJ j H (x / 2^k) wr hL qN ω hA;clear T ho hA
       go_wp2_with (first|(go_at_call 168;refine qU.mono ?_;rintro e w' ⟨rfl,rfl⟩))
       refine kB8 (kM3 rfl _ _ _) rfl ?_;first|exact⟨_,_,yV1 (yR7 HE.out HX.out),HA.out.1,HA.out.2,HB.out⟩|exact⟨_,_,yV1 (xH7 HE.out HX.out qP.out qV.out qG),HA.out.1,HA.out.2,HB.out⟩
theorem xW8 (bo:Option Addr) (b o n cap u x k:Nat) (w:World) (hn:n≤17592186044416) (hk:k≤1099511627776) (qQ:n≤cap) (H:k / 32=u) (qZ:n≤u) (V:0<n→bo=some ⟨b,o,none⟩) (I:dlen x=n)
  (Y:∀ i,i<n→w.cell? ⟨b,o+i,none⟩=some (.int .u32 (dg x i:Nat))) :
  Ca 112 #[.slice bo n cap,iV k] w fun e w'=>e=.returned (.tuple #[.slice none 0 0,.bool (decide (x % 2^k=0))])∧w'=w:=by
 have hq:(k:Int).tdiv 32=((k / 32:Nat):Int):=by rw[kG6 ω];rfl
 rw[H] at hq;have HP:Hid ((x % B^n=0↔x % 2^k=0)∧x / 2^k=0):=yV2 (Nat.le_of_eq I) ω;have qX:u≤1099511627776:=ω;clear H I
 go_enter Tryz.func112,Tryz.ntmps112
 go_wp2
 go_loop [6,7] (fun a v=>∃ (J:Bool) (i:Nat),a=.bool J∧v=iV (i:Int)∧i≤n∧Hid (J=true↔x % B^i=0)) (fun _ v=>n - (intOf v).toNat)
 case atStart=>exact⟨true,0,rfl,rfl,kB4 _,(by rw[kN7,Nat.mod_one];simp:true=true↔x % B^0=0)⟩
 case round =>
  obtain⟨J,i,rfl,rfl,hi,F⟩:=hrel;by_cases D:i<n
  ·obtain rfl:=V ω;have g1:=Y i ω;have HS:Hid (x % B^(i+1)=0↔(x % B^i=0∧dg x i=0)):=yV0 rfl;generalize dg x i=d at *;have T:(i:Int)<(u:Int):=ω;have qK:(i:Int)<(n:Int):=ω;clear Y V;cases J
   ·go_wp2;exact⟨⟨_,i+1,rfl,by simp,ω,zY2 F.out HS.out⟩,by simp[intOf];omega⟩
   ·go_wp2;exact⟨⟨_,i+1,rfl,by simp,ω,zY2 F.out HS.out⟩,by simp[intOf];omega⟩
  ·obtain rfl:i=n:=ω;have qY:(i:Int)≤(u:Int):=ω;have T:¬ (i:Int)<(i:Int):=ω;obtain⟨W,L⟩:∃ W:Bool,W=J:=⟨_,rfl⟩;have C:Hid (J=decide (x % 2^k=0)):=(by
    have h1:=F.out;have h2:=HP.out.1;cases J
    ·rw[kF1];intro h;exact absurd (h1.2 (h2.2 h)) δ
    ·rw[kF2 (h2.1 (h1.1 rfl))]:J=decide (x % 2^k=0))
   clear Y V D hi F L W
   go_wp2;refine kB8 (kM3 rfl _ _ _) rfl ?_;exact⟨yV1 C.out,rfl⟩
theorem xK9 {v:Value} {x:Nat} {w:World} (h:Ir w v x) (k:Nat) (hx:dlen x≤17592186044416) (H:k≤1099511627776) :
  Ca 112 #[v,iV k] w fun e w'=>∃ ao Y,e=.returned (.tuple #[.slice ao (dlen (x / 2^k)) Y,.bool (decide (x % 2^k=0))])∧At w' ao (dlen (x / 2^k)) (x / 2^k)∧dlen (x / 2^k)≤Y∧Bw w w':=by
 obtain⟨ao,cap,rfl,J,b,o,F,u⟩:=h;by_cases T:k / 32<dlen x
 ·obtain rfl:=F ω;obtain⟨m,V⟩:∃ m,dlen x=k / 32+m:=⟨dlen x - k / 32,ω⟩;rw[V] at u J ⊢;exact xW9 b o cap m _ _ x k w ω ω H J rfl rfl V u
 ·have D:=yV2 (x:=x) (k:=k) lR ω;refine(xW8 ao b o (dlen x) cap (k / 32) x k w hx H J rfl ω F rfl u).mono ?_
  rintro e w' ⟨rfl,rfl⟩;rw[D.2,qQ5];exact⟨none,0,rfl,⟨0,0,fun h=>by omega,fun i hi=>by omega⟩,kH8 _,kH9 _ _⟩
end Go.Proofs.YtfkaogdmlcdceaaGreatDoor
namespace Go.Proofs.YtfkaogdmlcdceaaGreatDoor
attribute [local go_sem] iV Nu
theorem xA {R V u Y t J d r n:Nat} (L:2≤n) (F:(u*B+Y)*B^(n - 2)≤V) (D:R<(t*B+J+1)*B^(n - 2)) (H:d*u+r=t) (h:r*B+J<d*Y):R<d*V:=by
 have T:(t*B+J+1)≤d*(u*B+Y):=by
  have W:d*(u*B+Y)=(d*u)*B+d*Y:=by grind
  have e2:t*B=d*u*B+r*B:=by rw[←H,Nat.add_mul]
  omega
 calc R<(t*B+J+1)*B^(n - 2):=D
  _≤d*(u*B+Y)*B^(n - 2):=kF5 _ T
  _=d*((u*B+Y)*B^(n - 2)):=kN6 _ _ _
  _≤d*V:=kB1 _ F
theorem xG8 {R V u Y t J d r n:Nat} (C:2≤n) (T:V<(u*B+Y+1)*B^(n - 2)) (L:(t*B+J)*B^(n - 2)≤R) (D:d*u+r=t) (I:d≤B) (F:1≤u) (h:d*Y≤r*B+J):(d - 1)*V≤R:=by
 rcases Nat.eq_zero_or_pos d with H|H
 ·subst H;simp
 obtain⟨c,rfl⟩:∃ c,d=c+1:=⟨d - 1,ω⟩;rw[kM5];have hb:c≤u*B+Y:=by
  have:B≤u*B:=Nat.le_mul_of_pos_left _ F
  omega
 have W:c*(u*B+Y+1)≤t*B+J:=by
  have e1:(c+1)*(u*B+Y)=((c+1)*u)*B+(c+1)*Y:=by grind
  have e2:t*B=(c+1)*u*B+r*B:=by rw[←D,Nat.add_mul]
  have e3:(c+1)*(u*B+Y)=c*(u*B+Y)+(u*B+Y):=by grind
  have e4:c*(u*B+Y+1)=c*(u*B+Y)+c:=by grind
  omega
 calc c*V≤c*((u*B+Y+1)*B^(n - 2)):=kB1 _ (kM8 T)
  _=c*(u*B+Y+1)*B^(n - 2):=(kN6 _ _ _).symm
  _≤(t*B+J)*B^(n - 2):=kF5 _ W
  _≤R:=L
structure Kn (R V v1 t d r:Nat):Prop where
 sum:d*v1+r=t
 ge:R<(d+1)*V
 le:d≤B+1
theorem yD8 {R V u J t n:Nat} (C:1≤n) (L:1≤u) (I:B≤2*u) (H:J<B) (Y:u*B^(n - 1)≤V) (F:R<(t+1)*B^(n - 1)) (W:t≤u*B+J):Kn R V u t (t / u) (t % u):=by
 have T:=Nat.div_add_mod t u;have h1:=kB3 t (show 0<u by omega)
 refine⟨by rw[kN4];exact T,?_,?_⟩
 ·have D:t+1≤(t / u+1)*u:=by rw[Nat.add_mul,Nat.one_mul,kN4];omega
  calc R<(t+1)*B^(n - 1):=F
   _≤(t / u+1)*u*B^(n - 1):=kF5 _ D
   _=(t / u+1)*(u*B^(n - 1)):=kN6 _ _ _
   _≤(t / u+1)*V:=kB1 _ Y
 ·refine Nat.le_of_lt_succ ((kM6 ω).2 ?_);have:(B+1).succ*u=u*B+2*u:=by rw[Nat.succ_eq_add_one];grind
  rw[this];omega
theorem Kn.less {R V u H t d r F n:Nat} (h:Kn R V u t d r) (L:2≤n) (C:(u*B+H)*B^(n - 2)≤V) (I:R<(t*B+F+1)*B^(n - 2)) (T:R<V*B) (D:B≤d∨r*B+F<d*H):Kn R V u t (d - 1) (r+u)∧1≤d:=by
 have W:1≤d:=by
  rcases D with h|h
  ·have:=qG6;omega
  ·rcases Nat.eq_zero_or_pos d with J|J
   ·rw[J] at h;omega
   ·exact J
 refine⟨⟨?_,?_,?_⟩,W⟩
 ·have:=h.sum
  have e:d*u=(d - 1)*u+u:=by
   obtain⟨c,rfl⟩:∃ c,d=c+1:=⟨d - 1,ω⟩;rw[kM5,Nat.add_mul,Nat.one_mul]
  omega
 ·rw[show d - 1+1=d by omega]
  rcases D with Y|Y
  ·exact kF6 T (by rw[kN4];exact kF5 _ Y)
  ·exact xA L C I h.sum Y
 ·have:=h.le;omega
theorem Kn.done {R V J Y t d r H n:Nat} (h:Kn R V J t d r) (C:2≤n) (W:1≤J) (F:Y<B) (u:0<V) (hV:V<(J*B+Y+1)*B^(n - 2)) (hR:(t*B+H)*B^(n - 2)≤R) (T:d<B) (I:d*Y≤r*B+H∨B≤r):R / V≤d∧d≤R / V+1:=by
 have D:d*Y≤r*B+H:=by
  rcases I with h|h
  ·exact h
  ·have L:=Nat.mul_le_mul (kM8 T) (kM8 F);have h2:B*B≤r*B:=kF5 _ h;omega
 constructor
 ·exact Nat.le_of_lt_succ ((kM6 u).2 h.ge)
 ·have L:=xG8 C hV hR h.sum (kM8 T) W D;have:=(Nat.le_div_iff_mul_le u).2 L
  omega
theorem Kn.brk {R V u Y t d r:Nat} (h:Kn R V u t d r) (D:B≤2*u) (J:Y<B) (F:r<B) (H:t≤u*B+Y) (T:B≤r+u):d - 1<B:=by
 have C:=h.sum;have W:=h.le;have L:=qG6;rcases Nat.lt_or_ge d (B+1)with h3|h3
 ·omega
 ·obtain rfl:d=B+1:=ω;have:(B+1)*u=u*B+u:=by grind
  omega
end Go.Proofs.YtfkaogdmlcdceaaGreatDoor
namespace Go.Proofs.YtfkaogdmlcdceaaGreatDoor
open Go.RowKit
attribute [local go_sem] iV Nu
theorem yR9 (x i:Nat):x / B^i=x / B^(i+1)*B+dg x i:=by
 unfold dg;rw[kN5,←kN0];have:=Nat.div_add_mod (x / B^i) B
 rw[kN4];omega
theorem xY4 {x b i r d t:Nat} (J:0<b) (Y:b<B) (V:x / B^(i+1) % b=r) (H:dg x i=d) (W:r*B+d=t):t / b=dg (x / b) i∧t % b=x / B^i % b∧t<18446744073709551616∧t / b<B:=by
 have C:d<B:=H ▸ qX1 _ _;have u:r<b:=V ▸ kB3 _ J;have L:=yR9 x i;have T:=Nat.div_add_mod (x / B^(i+1)) b;rw[V] at T;rw[H] at L;have D:x / B^i=t+b*(x / B^(i+1) / b*B):=by
  rw[L,←W];have e:x / B^(i+1)*B=b*(x / B^(i+1) / b*B)+r*B:=by
   conv=>lhs;rw[←T]
   grind
  omega
 have h4:t<B*b:=by
  have:(r+1)*B≤b*B:=kF5 _ u
  rw[Nat.add_mul,kN4 b B] at this;omega
 have F:=(kM6 J).2 h4;refine⟨?_,?_,?_,F⟩
 ·unfold dg;rw[kN0,kN4 b,←kN0,D,Nat.add_mul_div_left _ _ J,Nat.add_mul_mod_self_right,kB2 F]
 ·rw[D,Nat.add_mul_mod_self_left]
 ·have:B*b≤B*B:=kB1 _ (kM8 Y)
  have I:B*B=18446744073709551616:=by unfold B;rfl
  omega
theorem xY3 {r d:Nat} (Y:r<B) (u:d<B):bits BinOp.or IntKind.u64 (IntKind.u64.wrap ((r:Int)*4294967296)) (IntKind.u64.wrap (d:Int))=((r*B+d:Nat):Int):=by
 have e:IntKind.u64.wrap ((r:Int)*4294967296)=((r*B:Nat):Int):=by
  rw[kB6];unfold B at *; omega
 rw[qX3 u,e,u64_or_nat _ _ (by unfold B at *; omega) (by unfold B at *; omega),qO7 (p:=32) (by rw[←yB9];exact Nat.mul_mod_left ..) u]
theorem xR7 {a:Value} {r y:Nat} (h:r=y) (u:r<B):Ending.returned (Value.tuple #[a,.int .u32 ((r:Int) % 4294967296)])=.returned (.tuple #[a,.int .u32 (y:Nat)]):=by
 rw[show((r:Int) % 4294967296)=(y:Int) by unfold B at u;omega]
theorem xR6 {w wr:World} {n j t b y:Nat} (h:Mk w wr n (fun t=>if j+1≤t then dg y t else 0)) (V:t / b=dg y j) (J:t / b<B) (F:t<18446744073709551616) :
  Mk w (wr.setCell ⟨w.heap.size,j,none⟩ (.int .u32 (IntKind.u64.wrap ((t:Int) / (b:Int)) % 4294967296))) n (fun t=>if j≤t then dg y t else 0):=by
 have e:IntKind.u64.wrap ((t:Int) / (b:Int)) % 4294967296=((dg y j:Nat):Int):=by
  rw[show(t:Int) / (b:Int)=((t / b:Nat):Int)from rfl,kB6,←V];generalize t / b=q at *;unfold B at J;omega
 rw[e];refine(h.set j _).congr fun s H=>?_
 by_cases u:s=j
 ·subst u;simp
 ·by_cases Y:j+1≤s
  ·simp[u,Y,show j≤s by omega]
  ·simp[u,Y,show ¬ j≤s by omega]
theorem yZ5 (ao:Option Addr) (ba oa n ca x b:Nat) (w:World) (ha:ao=some ⟨ba,oa,none⟩) (qZ:0<n) (hn:n≤1000000000) (hx:dlen x=n) (hb:0<b) (J:b<B)
  (Y:∀ i,i<n→w.cell? ⟨ba,oa+i,none⟩=some (.int .u32 (dg x i:Nat))) :
  Ca 102 #[.slice ao n ca,.int .u32 (b:Nat)] w fun e w'=>∃ v,e=.returned (.tuple #[v,.int .u32 (x % b:Nat)])∧Own w' w.heap.size v (x / b)∧Bw w w':=by
 subst ha;have C:=run_make_row' (P:=Tryz.prog) 48 96 (.int .u32 0) 4 Tryz.underlying48 Tryz.info96 rfl .i64 .i64 n ω ω;have HX:Hid _:=hx;have H:Hid _:=And.intro hb J;have qX:=qX3 J;have qV:((b:Int)==0)=false:=by simp;omega
 have qJ:(b:Int)≠0:=ω;have qK:(0:Int)<b:=ω;clear hx hb J
 go_enter Tryz.func102,Tryz.ntmps102
 go_wp2;clear C
 go_loopw [7,8] (fun r c wr=>∃ i:Nat,i≤n∧r=.int .u64 (x / B^i % b:Nat)∧c=iV ((i:Int) - 1)∧Mk w wr n (fun t=>if i≤t then dg (x / b) t else 0)) (fun _ c _=>(intOf c+1).toNat)
 case atStart=>exact⟨n,kH8 _,by rw[Nat.div_eq_of_lt (by rw[←HX.out];exact qY5 x),Nat.zero_mod];rfl,rfl,(Mk.start w _).congr fun t F=>by rw[kU5 ω]⟩
 case round =>
  obtain⟨i,hi,rfl,rfl,V⟩:=hrel;by_cases I:0<i
  ·obtain⟨j,rfl⟩:∃ j,i=j+1:=⟨i - 1,ω⟩;have g1:=V.old (Y j ω);have g3:=V.frozen j;have g2:=V.cell (i:=j) ω;rw[kU5 ω] at g2;have HO:Hid _:=V;obtain⟨d,D⟩:∃ d,dg x j=d:=⟨_,rfl⟩;obtain⟨r,u⟩:∃ r,x / B^(j+1) % b=r:=⟨_,rfl⟩;obtain⟨t,F⟩:∃ t,r*B+d=t:=⟨_,rfl⟩;have hs:=xY4 H.out.1 H.out.2 u D F;have W:=xY3 (r:=r) (d:=d) (by have:=kB3 (x / B^(j+1)) H.out.1;have:=H.out.2;omega) (D ▸ qX1 _ _)
   rw[F] at W;rw[D] at g1;rw[u];have T:Hid _:=hs;have e1:((j+1:Nat):Int) - 1=(j:Int):=ω;have qY:(0:Int)≤(j:Int):=ω;have qQ:(t:Int)<18446744073709551616:=ω;clear hs F u D V Y
   go_wp2;exact⟨⟨j,ω,kU7 (Value.int .u64) (by rw[←T.out.2.1];rfl),rfl,xR6 HO.out T.out.1 T.out.2.2.2 T.out.2.2.1⟩,by simp[intOf]⟩
  ·obtain rfl:i=0:=ω;have hE:Mk w wr n (dg (x / b)):=V.congr fun t F=>kU6 (kB4 _);have hA:=hE.at;have hL:dlen (x / b)≤n:=by rw[←HX.out];exact qZ5 (kF9 _ _)
   have HC:Hid _:=hE;have L:=r40 (some ⟨w.heap.size,0,none⟩) n n (x / b) wr hL lR ω hA;have HL:Hid _:=hL;obtain⟨r,u⟩:∃ r,x / B^0 % b=r:=⟨_,rfl⟩;rw[u];have HR:Hid (r=x % b∧r<B):=⟨by rw[←u,kN7,Nat.div_one],by have:=kB3 (x / B^0) H.out.1;have:=H.out.2;omega⟩
   clear V Y hE hA hL u I
   go_wp2_with (first|(go_at_call 168;refine L.mono ?_;rintro e w' ⟨rfl,rfl⟩))
   refine kB8 (kM3 rfl _ _ _) rfl ?_;exact⟨_,xR7 HR.out.1 HR.out.2,HC.out.own HL.out ω,HC.out.below⟩
theorem yZ6 {v:Value} {x b:Nat} {w:World} (h:Ir w v x) (u:x≠0) (hx:dlen x≤1000000000) (H:0<b) (Y:b<B) :
  Ca 102 #[v,.int .u32 (b:Nat)] w fun e w'=>∃ v,e=.returned (.tuple #[v,.int .u32 (x % b:Nat)])∧Own w' w.heap.size v (x / b)∧Bw w w':=by
 obtain⟨ao,F,rfl,W,D,V,L,T⟩:=h;have J:0<dlen x:=kB0 fun e=>u (qQ8.1 e);exact yZ5 ao D V _ F x b w (L J) J hx rfl H Y T
structure Two (g h:Nat) (w wr:World) (L M:Nat) (f q:Nat→Nat):Prop where
 os:wr.os=w.os
 tape:wr.tape=w.tape
 output:wr.output=w.output
 size:wr.heap.size=w.heap.size
 block:∀ k,k≠g→k≠h→wr.heap[k]?=w.heap[k]?
 ru:RowGe wr g L (fun i=>.int .u32 (f i:Nat))
 rq:RowGe wr h M (fun i=>.int .u32 (q i:Nat))
theorem Two.congr {g h:Nat} {w wr:World} {L M:Nat} {f q Y u:Nat→Nat} (t:Two g h w wr L M f q) (e:∀ i,i<L→f i=Y i) (e':∀ i,i<M→q i=u i):Two g h w wr L M Y u :=
 ⟨t.os,t.tape,t.output,t.size,t.block,t.ru.congr (fun i hi=>by rw[e i hi]),t.rq.congr (fun i hi=>by rw[e' i hi])⟩
theorem Two.drewN {g h:Nat} {w wr:World} {L M:Nat} {f q:Nat→Nat} (t:Two g h w wr L M f q) (n:Nat):Two g h w (wr.drewN n) L M f q :=
 ⟨t.os,t.tape,t.output,t.size,t.block,t.ru,t.rq⟩
theorem Two.cellU {g h:Nat} {w wr:World} {L M:Nat} {f q:Nat→Nat} (t:Two g h w wr L M f q) {i:Nat} (hi:i<L):wr.cell? ⟨g,i,none⟩=some (.int .u32 (f i:Nat)):=t.ru.cell hi
theorem Two.cellQ {g h:Nat} {w wr:World} {L M:Nat} {f q:Nat→Nat} (t:Two g h w wr L M f q) {i:Nat} (hi:i<M):wr.cell? ⟨h,i,none⟩=some (.int .u32 (q i:Nat)):=t.rq.cell hi
theorem Two.frozenU {g h:Nat} {w wr:World} {L M:Nat} {f q:Nat→Nat} (t:Two g h w wr L M f q) (i:Nat):wr.frozen? ⟨g,i,none⟩=false:=t.ru.frozen i
theorem Two.frozenQ {g h:Nat} {w wr:World} {L M:Nat} {f q:Nat→Nat} (t:Two g h w wr L M f q) (i:Nat):wr.frozen? ⟨h,i,none⟩=false:=t.rq.frozen i
theorem Two.old {g h:Nat} {w wr:World} {L M:Nat} {f q:Nat→Nat} (t:Two g h w wr L M f q) {p:Addr} {u:Value} (V:p.block≠g) (J:p.block≠h) (Y:w.cell? p=some u):wr.cell? p=some u:=(World.cell?_of_block (w:=w) (t.block p.block V J)).trans Y
theorem Two.below {g h b:Nat} {w wr:World} {L M:Nat} {f q:Nat→Nat} (t:Two g h w wr L M f q) (J:b≤g) (Y:b≤h):Below b w wr:=⟨t.os,t.tape,t.output,by rw[t.size];exact kH8 _,fun k u=>t.block k ω ω⟩
theorem Two.setU {g h:Nat} {w wr:World} {L M:Nat} {f q:Nat→Nat} (t:Two g h w wr L M f q) (u:g≠h) (i d:Nat):Two g h w (wr.setCell ⟨g,i,none⟩ (.int .u32 (d:Nat))) L M (fun j=>if j=i then d else f j) q :=
 ⟨t.os,t.tape,t.output,by rw[←t.size];simp[World.setCell],fun k Y J=>(Below.heap_setCell _ _ _ _ Y).trans (t.block k Y J),(t.ru.set i _).congr (fun j _=>by split <;> rfl),t.rq.of_block (Below.heap_setCell _ _ _ _ (Ne.symm u))⟩
theorem Two.setQ {g h:Nat} {w wr:World} {L M:Nat} {f q:Nat→Nat} (t:Two g h w wr L M f q) (u:g≠h) (i d:Nat):Two g h w (wr.setCell ⟨h,i,none⟩ (.int .u32 (d:Nat))) L M f (fun j=>if j=i then d else q j) :=
 ⟨t.os,t.tape,t.output,by rw[←t.size];simp[World.setCell],fun k J Y=>(Below.heap_setCell _ _ _ _ Y).trans (t.block k J Y),t.ru.of_block (Below.heap_setCell _ _ _ _ u),(t.rq.set i _).congr (fun j _=>by split <;> rfl)⟩
theorem Two.putU {g h:Nat} {w wr:World} {L M off j z:Nat} {f q:Nat→Nat} (t:Two g h w wr L M (put off j z f) q) (u:g≠h) {d:Int} (Y:d=(dg z j:Nat)):Two g h w (wr.setCell ⟨g,off+j,none⟩ (.int .u32 d)) L M (put off (j+1) z f) q:=by
 subst Y;refine(t.setU u (off+j) _).congr (fun s J=>?_) (fun _ _=>rfl)
 unfold put;by_cases e:s=off+j
 ·subst e;rw[kU6 rfl,kU6 ω,Nat.add_sub_cancel_left]
 ·rw[kU5 e];by_cases e2:off≤s∧s<off+j
  ·rw[kU6 e2,kU6 ω]
  ·rw[kU5 e2,kU5 ω]
theorem zH9 {Y V j t:Nat}:dg (Y % (V*B^(j+1))) (j+t)=dg (Y / B^j % (V*B)) t:=by
 have e:V*B^(j+1)=B^j*(V*B):=by rw[kN5];grind
 rw[←qR7,e,Nat.mod_mul_right_div_self]
theorem zI3 {Y V V' j t:Nat} (h:t<j) (J:0<V):dg (Y % (V*B^j)) t=dg Y t:=by
 have u:dg (Y % (V*B^j) % B^j) t=dg (Y % (V*B^j)) t:=qN6 h;rw[←u,Nat.mod_mul_left_mod,qN6 h]
theorem xZ6 {Y V j t:Nat}:dg (Y % (V*B^j)) (j+t)=dg (Y / B^j % V) t:=by
 have e:V*B^j=B^j*V:=kN4 _ _;rw[←qR7,e,Nat.mod_mul_right_div_self]
theorem zI2 {Y V j:Nat}:Y / B^j % (V*B) / V=dg (Y / V) j:=by
 unfold dg;rw[Nat.mod_mul_right_div_self,kN0,kN0,kN4]
theorem yN2 {Y V j:Nat}:Y / B^j % (V*B) % V=Y / B^j % V:=Nat.mod_mul_right_mod _ _ _
theorem zO4 {X n:Nat} (Y:1≤n) (h:X<B^(n+1)):dg X n*B+dg X (n - 1)=X / B^(n - 1):=by
 obtain⟨m,rfl⟩:∃ m,n=m+1:=⟨n - 1,ω⟩;rw[kM5];unfold dg;rw[kN5,←kN0];have u:X / B^m / B<B:=by
  rw[kN0,←kN5];refine(kM6 (kH1 qG6)).2 ?_
  rw[kN4,←kN5];exact h
 rw[kB2 u];have:=Nat.div_add_mod (X / B^m) B
 rw[kN4];omega
structure Gs (R V v1 v2 t r3 n:Nat):Prop where
 n2:2≤n
 v1p:1≤v1
 v1h:B≤2*v1
 v1B:v1<B
 v2B:v2<B
 r3B:r3<B
 V0:0<V
 Vlo:(v1*B+v2)*B^(n - 2)≤V
 Vhi:V<(v1*B+v2+1)*B^(n - 2)
 Rlo:(t*B+r3)*B^(n - 2)≤R
 Rhi:R<(t*B+r3+1)*B^(n - 2)
 V1:v1*B^(n - 1)≤V
 R1:R<(t+1)*B^(n - 1)
 tle:t≤v1*B+v2
 RV:R<V*B
 tB:t<B*B
theorem qP1 {X m k:Nat} (h:X / B^k=m):m*B^k≤X∧X<(m+1)*B^k:=by
 have u:0<B^k:=kH1 qG6;subst h;exact⟨kM9 _ _,Nat.lt_mul_of_div_lt (Nat.lt_succ_self _) u⟩
theorem gs_of {R V n:Nat} (C:2≤n) (D:dlen V=n) (I:B≤2*dg V (n - 1)) (T:R<V*B):Gs R V (dg V (n - 1)) (dg V (n - 2)) (R / B^(n - 1)) (dg R (n - 2)) n:=by
 have L:=qG6;have u:V<B^n:=D ▸ qY5 V;have F:0<V:=kB0 fun e=>by rw[e,qQ5] at D;omega
 have e1:V / B^(n - 2)=dg V (n - 1)*B+dg V (n - 2):=by
  have:=zO4 (X:=V) (n:=n - 1) ω (by rw[show n - 1+1=n by omega];exact u)
  rw[show n - 1 - 1=n - 2 by omega] at this
  exact this.symm
 have e2:V / B^(n - 1)=dg V (n - 1):=by
  unfold dg;rw[kB2];refine(kM6 (kH1 L)).2 ?_
  rw[kN4,←kN5,show(n - 1).succ=n by omega];exact u
 have e3:R / B^(n - 2)=R / B^(n - 1)*B+dg R (n - 2):=by
  unfold dg;have h1:=Nat.div_add_mod (R / B^(n - 2)) B;rw[kN0,←kN5,show(n - 2).succ=n - 1 by omega] at h1
  rw[kN4];omega
 obtain⟨a1,a2⟩:=qP1 e1;obtain⟨b1,b2⟩:=qP1 e2;obtain⟨c1,c2⟩:=qP1 e3;obtain⟨d1,d2⟩:=qP1 (X:=R) (k:=n - 1) rfl;have H:B^(n - 1)=B*B^(n - 2):=by rw[←Nat.pow_succ'];congr 1;omega
 have W:R / B^(n - 1)≤dg V (n - 1)*B+dg V (n - 2):=by
  refine Nat.le_of_lt_succ ((kM6 (kH1 L)).2 (kF6 T ?_));rw[H,kN4 V B,Nat.mul_left_comm];exact kB1 _ (kM8 a2)
 have J:=qX1 V (n - 1);have Y:=qX1 V (n - 2);refine⟨C,ω,I,J,Y,qX1 _ _,F,a1,a2,c1,c2,b1,d2,W,T,?_⟩
 have:dg V (n - 1)*B+B≤B*B:=by
  have:=kF5 B (show dg V (n - 1)+1≤B by omega)
  rw[Nat.add_mul,Nat.one_mul] at this;exact this
 omega
theorem Gs.start {R V u Y t J n:Nat} (h:Gs R V u Y t J n):Kn R V u t (t / u) (t % u):=yD8 (by have:=h.n2;omega) h.v1p h.v1h h.v2B h.V1 h.R1 h.tle
theorem Gs.less {R V u Y t J n d r:Nat} (h:Gs R V u Y t J n) (k:Kn R V u t d r) (H:B≤d∨r*B+J<d*Y):Kn R V u t (d - 1) (r+u)∧1≤d:=k.less h.n2 h.Vlo h.Rhi h.RV H
theorem Gs.done {R V Y u t J n d r:Nat} (h:Gs R V Y u t J n) (k:Kn R V Y t d r) (H:d<B) (F:d*u≤r*B+J∨B≤r):R / V≤d∧d≤R / V+1:=k.done h.n2 h.v1p h.v2B h.V0 h.Vhi h.Rlo H F
theorem Gs.brk {R V u Y t J n d r:Nat} (h:Gs R V u Y t J n) (k:Kn R V u t d r) (H:r<B) (F:B≤r+u):d - 1<B:=k.brk h.v1h h.v2B H h.tle F
theorem zD8 {u y b:Nat} (J:u<B) (Y:y<B) (V:b≤1):∃ W:Nat,IntKind.u64.wrap (IntKind.u64.wrap ((u:Int) - (y:Int)) - (b:Int))=(W:Int)∧(W:Int) % 4294967296=(((u+B+B - y - b) % B:Nat):Int)∧(W:Int) / 9223372036854775808=((if u<y+b then 1 else 0:Nat):Int):=by
 unfold B at *;rw[kB6,kB6];by_cases h:u<y+b
 ·refine⟨18446744073709551616+u - y - b,ω,ω,?_⟩
  rw[kU6 h];omega
 ·refine⟨u - y - b,ω,ω,?_⟩
  rw[kU5 h];omega
theorem xU8 {R V D s n:Nat} (hD:D<B) (C:s<n+1):∃ P W J y H u:Nat,
  IntKind.u64.wrap (IntKind.u64.wrap ((D:Int)*((dg V s:Nat):Int))+((mulc V D s:Nat):Int))=(P:Int)∧(P:Int) / 4294967296=(J:Int)∧(P:Int) % 4294967296=(y:Int)∧IntKind.u64.wrap (y:Int)=(y:Int) ∧
  IntKind.u64.wrap (IntKind.u64.wrap (((dg R s:Nat):Int) - (y:Int)) - ((subb R (V*D) s:Nat):Int))=(W:Int)∧(W:Int) % 4294967296=(u:Int)∧(W:Int) / 9223372036854775808=(H:Int) ∧
  J=mulc V D (s+1)∧H=subb R (V*D) (s+1)∧u=dg (wsub R (V*D) (n+1)) s:=by
 have I:=qX1 V s;have hc:=zB9 V D s;have Y:=qX1 (V*D) s;have hf:=qM7 (c:=mulc V D s) (f:=0) (d:=D) (e:=dg V s) ω (by unfold B;omega) hD I
 have e1:=qA6 V D s;have e2:=qR3 V D s;obtain⟨W,L,T,F⟩:=zD8 (qX1 R s) Y (qT9 R (V*D) s);refine⟨mulc V D s+dg V s*D,W,_,_,_,_,?_,?_,?_,qX3 Y,L,T,F,rfl,(qN1 R (V*D) s).symm,(qA5 C).symm⟩
 ·rw[←kN8,kN4 D];generalize dg V s*D=m at *;rw[kB6,kB6];omega
 ·rw[e2];generalize mulc V D s+dg V s*D=m;unfold B;omega
 ·rw[e1];generalize mulc V D s+dg V s*D=m;unfold B;omega
theorem xE8 {R V D n:Nat} (I:D<B) (H:V<B^n) (C:R<B^(n+1)):∃ W J:Nat,
  IntKind.u64.wrap (IntKind.u64.wrap (((dg R n:Nat):Int) - ((mulc V D n:Nat):Int)) - ((subb R (V*D) n:Nat):Int))=(W:Int)∧(W:Int) % 4294967296=(J:Int)∧((W:Int) / 9223372036854775808 != 0)=decide (R<V*D)∧J=dg (wsub R (V*D) (n+1)) n:=by
 have hc:=zB9 V D n;have e1:dg (V*D) n=mulc V D n:=by
  rw[qA6,qU0 H,Nat.zero_mul,kH7,kB2 ω]
 obtain⟨W,Y,T,F⟩:=zD8 (qX1 R n) (qX1 (V*D) n) (qT9 R (V*D) n);rw[e1] at Y;refine⟨W,_,Y,T,?_,(qA5 ω).symm⟩
 rw[F,←qN1];have u:subb R (V*D) (n+1)=if R<V*D then 1 else 0:=by
  unfold subb;have L:V*D<B^(n+1):=by rw[qY0];exact Nat.mul_lt_mul_of_lt_of_le H (kM8 I) qG6
  rw[kB2 C,kB2 L]
 rw[u];by_cases h:R<V*D <;> simp[h]
theorem xM1 (z V s:Nat):∃ T Y u:Nat,IntKind.u64.wrap (IntKind.u64.wrap (((addc z V s:Nat):Int)+((dg z s:Nat):Int))+((dg V s:Nat):Int))=(T:Int)∧(T:Int) % 4294967296=(u:Int)∧(T:Int) / 4294967296=(Y:Int)∧Y=addc z V (s+1)∧u=dg (z+V) s:=by
 have F:=qX1 z s;have H:=qX1 V s;have J:=qF3 z V s;refine⟨addc z V s+dg z s+dg V s,_,_,?_,?_,?_,rfl,rfl⟩
 ·rw[kB6,kB6];unfold B at *; omega
 ·rw[qR8];generalize addc z V s+dg z s+dg V s=m;unfold B;omega
 ·rw[qT1];generalize addc z V s+dg z s+dg V s=m;unfold B;omega
theorem kV2 {z V n:Nat} (Y:V<B^n):∃ u:Nat,IntKind.u32.wrap (((dg z n:Nat):Int)+((addc z V n:Nat):Int) % 4294967296)=(u:Int)∧u=dg (z+V) n:=by
 have H:=qX1 z n;have J:=qF3 z V n;refine⟨_,?_,rfl⟩
 rw[qR8,qU0 Y,IntKind.wrap_u32];unfold B at *; omega
theorem xO4 {R V D n:Nat} (J:R<B^(n+1)) (h:¬ R<V*D) (F:R / V≤D) (Y:0<V):D=R / V∧wsub R (V*D) (n+1)=R % V:=by
 have H:D≤R / V:=(Nat.le_div_iff_mul_le Y).2 (by rw[kN4];omega)
 have u:D=R / V:=ω;refine⟨u,?_⟩
 rw[qM3 J ω,u];have:=Nat.div_add_mod R V
 omega
theorem xO5 {R V D n:Nat} (F:R<B^(n+1)) (J:V*D<B^(n+1)) (h:R<V*D) (L:D≤R / V+1) (u:0<V):D=R / V+1∧wsub R (V*D) (n+1)+V=R % V+B^(n+1):=by
 have T:R / V<D:=(kM6 u).2 (by rw[kN4];exact h)
 have Y:D=R / V+1:=ω;refine⟨Y,?_⟩
 unfold wsub;rw[kB2 J,kB2 ω];have:=Nat.div_add_mod R V
 have e:V*D=V*(R / V)+V:=by rw[Y,Nat.mul_add,kM1]
 have H:=kB3 R u;omega
theorem xF4 {x n t:Nat} (h:t<n):dg (x+B^n) t=dg x t:=by
 rw[←qN6 h,Nat.add_mod_right,qN6 h]
theorem yJ8 {Y V R j n z:Nat} {f:Nat→Nat} (u:0<V) (T:V<B^n) (H:R=Y / B^j % (V*B)) (J:R<B^(n+1)) (F:∀ t,t<n+1→dg z t=dg (R % V) t) (D:∀ i,f i=if j≤i∧i<j+(n+1)then dg z (i - j)else dg (Y % (V*B^(j+1))) i) (i:Nat):f i=dg (Y % (V*B^j)) i:=by
 rw[D];by_cases W:i<j
 ·rw[kU5 ω,zI3 (V':=0) ω u,zI3 (V':=0) W u]
 ·obtain⟨t,rfl⟩:∃ t,i=j+t:=⟨i - j,ω⟩;rw[Nat.add_sub_cancel_left,xZ6,zH9,←H];by_cases L:t<n+1
  ·rw[kU6 ω,F t L,H,yN2]
  ·rw[kU5 ω,qU0 (kF6 J (kF4 qG6 ω))];refine(qU0 (kF6 (kB3 _ u) (kM8 (kF6 T (kF4 qG6 ω))))).symm
end Go.Proofs.YtfkaogdmlcdceaaGreatDoor
