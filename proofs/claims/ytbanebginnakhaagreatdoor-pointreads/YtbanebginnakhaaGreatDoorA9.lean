/- Own work: contracts of the program's functions, part 9: RV1 DV2 DV3 RV2 DV4 RV3 RV4 RW2. -/
import Derived.Test.YtbanebginnakhaaGreatDoorA8
import Derived.Test.YtbanebginnakhaaGreatDoorA2
import Derived.Test.YtbanebginnakhaaGreatDoorA7
import Derived.Deep.CutBlock
import Derived.Test.YtbanebginnakhaaGreatDoorA6

set_option maxHeartbeats 16000000
set_option maxRecDepth 200000
set_option linter.unusedVariables false
set_option linter.unusedSimpArgs false
namespace Go.Proofs.YtbanebginnakhaaGreatDoor
open Go.RowKit
theorem yF8 (x i:Nat):x / B^i=x / B^(i+1)*B+dg x i:=by
 unfold dg;rw[xC5,←xC0];have:=Nat.div_add_mod (x / B^i) B
 rw[xC4];omega
theorem yW0 {x b i r d t:Nat} (hb:0<b) (hbB:b<B) (hr:x / B^(i+1) % b=r) (hd:dg x i=d) (ht:r*B+d=t):t / b=dg (x / b) i∧t % b=x / B^i % b∧t<18446744073709551616∧t / b<B:=by
 have hdB:d<B:=hd ▸ qZ4 _ _;have hrb:r<b:=hr ▸ xW4 _ hb;have h1:=yF8 x i;have h2:=Nat.div_add_mod (x / B^(i+1)) b;rw[hr] at h2;rw[hd] at h1;have h3:x / B^i=t+b*(x / B^(i+1) / b*B):=by
  rw[h1,←ht];have e:x / B^(i+1)*B=b*(x / B^(i+1) / b*B)+r*B:=by
   conv=>lhs;rw[←h2]
   grind
  omega
 have h4:t<B*b:=by
  have:(r+1)*B≤b*B:=xL7 _ hrb
  rw[Nat.add_mul,xC4 b B] at this;omega
 have h5:t / b<B:=(xE6 hb).2 h4;refine⟨?_,?_,?_,h5⟩
 ·unfold dg;rw[xC0,xC4 b,←xC0,h3,Nat.add_mul_div_left _ _ hb,Nat.add_mul_mod_self_right,xW3 h5]
 ·rw[h3,Nat.add_mul_mod_self_left]
 ·have:B*b≤B*B:=xW2 _ (xE8 hbB)
  have hBB:B*B=18446744073709551616:=by unfold B;rfl
  omega
theorem yW {r d:Nat} (hr:r<B) (hd:d<B):bits BinOp.or IntKind.u64 (IntKind.u64.wrap ((r:Int)*4294967296)) (IntKind.u64.wrap (d:Int))=((r*B+d:Nat):Int):=by
 have e:IntKind.u64.wrap ((r:Int)*4294967296)=((r*B:Nat):Int):=by
  rw[xW7];unfold B at *; omega
 rw[qZ6 hd,e,u64_or_nat _ _ (by unfold B at *; omega) (by unfold B at *; omega),qC3 (p:=32) (by rw[←yJ7];exact Nat.mul_mod_left ..) hd]
theorem xJ9 {a:Value} {r y:Nat} (h:r=y) (hr:r<B):Ending.returned (Value.tuple #[a,.int .u32 ((r:Int) % 4294967296)])=.returned (.tuple #[a,.int .u32 (y:Nat)]):=by
 rw[show((r:Int) % 4294967296)=(y:Int) by unfold B at hr;omega]
theorem xJ8 {w wr:World} {n j t b y:Nat} (h:Mk w wr n (fun t=>if j+1≤t then dg y t else 0)) (h1:t / b=dg y j) (h2:t / b<B) (h3:t<18446744073709551616) :
  Mk w (wr.setCell ⟨w.heap.size,j,none⟩ (.int .u32 (IntKind.u64.wrap ((t:Int) / (b:Int)) % 4294967296))) n (fun t=>if j≤t then dg y t else 0):=by
 have e:IntKind.u64.wrap ((t:Int) / (b:Int)) % 4294967296=((dg y j:Nat):Int):=by
  rw[show(t:Int) / (b:Int)=((t / b:Nat):Int)from rfl,xW7,←h1];generalize t / b=q at *;unfold B at h2;omega
 rw[e];refine(h.set j _).congr fun s hs=>?_
 by_cases h5:s=j
 ·subst h5;simp
 ·by_cases h6:j+1≤s
  ·simp[h5,h6,show j≤s by omega]
  ·simp[h5,h6,show ¬ j≤s by omega]
theorem zW5 (ao:Option Addr) (ba oa n ca x b:Nat) (w:World) (ha:ao=some ⟨ba,oa,none⟩) (hn0:0<n) (hn:n≤1000000000) (hx:dlen x=n) (hb:0<b) (hbB:b<B)
  (hca:∀ i,i<n→w.cell? ⟨ba,oa+i,none⟩=some (.int .u32 (dg x i:Nat))) :
  Calls Tryz.prog 219 #[.slice ao n ca,.int .u32 (b:Nat)] w fun e w'=>∃ v,e=.returned (.tuple #[v,.int .u32 (x % b:Nat)])∧Own w' w.heap.size v (x / b)∧Bw w w':=by
 subst ha;have hmk:=run_make_row' (P:=Tryz.prog) 82 50 (.int .u32 0) 4 Tryz.underlying82 Tryz.info50 rfl .i64 .i64 n (by omega) (by omega)
 have HX:Hid (dlen x=n):=hx;have HB:Hid (0<b∧b<B):=⟨hb,hbB⟩;have hbw:=qZ6 hbB;have hb0:((b:Int)==0)=false:=by simp;omega
 have hb1:(b:Int)≠0:=by omega
 have hb2:(0:Int)<b:=by omega
 clear hx hb hbB
 go_enter Tryz.func219,Tryz.ntmps219
 go_wp2;clear hmk
 go_loopw [7,8] (fun r c wr=>∃ i:Nat,i≤n∧r=.int .u64 (x / B^i % b:Nat)∧c=.int .i64 ((i:Int) - 1)∧Mk w wr n (fun t=>if i≤t then dg (x / b) t else 0)) (fun _ c _=>(intOf c+1).toNat)
 case atStart=>exact⟨n,xL0 _,by rw[Nat.div_eq_of_lt (by rw[←HX.out];exact qY x),Nat.zero_mod];rfl,rfl,(Mk.start w _).congr fun t ht=>by rw[if_neg (by omega)]⟩
 case round =>
  obtain⟨i,hi,rfl,rfl,hO⟩:=hrel;by_cases hi0:0<i
  ·obtain⟨j,rfl⟩:∃ j,i=j+1:=⟨i - 1,by omega⟩
   have g1:=hO.old (hca j (by omega))
   have g3:=hO.frozen j;have g2:=hO.cell (i:=j) (by omega)
   rw[if_neg (by omega)] at g2
   have HO:Hid (Mk w wr n (fun t=>if j+1≤t then dg (x / b) t else 0)):=hO;obtain⟨d,hd⟩:∃ d,dg x j=d:=⟨_,rfl⟩;obtain⟨r,hr⟩:∃ r,x / B^(j+1) % b=r:=⟨_,rfl⟩;obtain⟨t,ht⟩:∃ t,r*B+d=t:=⟨_,rfl⟩;have hs:=yW0 HB.out.1 HB.out.2 hr hd ht;have htw:=yW (r:=r) (d:=d) (by have:=xW4 (x / B^(j+1)) HB.out.1;have:=HB.out.2;omega) (hd ▸ qZ4 _ _)
   rw[ht] at htw;rw[hd] at g1;rw[hr];have HS:Hid (t / b=dg (x / b) j∧t % b=x / B^j % b∧t<18446744073709551616∧t / b<B):=hs;have e1:((j+1:Nat):Int) - 1=(j:Int):=by omega
   have hj0:(0:Int)≤(j:Int):=by omega
   have htl:(t:Int)<18446744073709551616:=by omega
   clear hs ht hr hd hO hca
   go_wp2;exact⟨⟨j,by omega,congrArg (Value.int .u64) (by rw[←HS.out.2.1];rfl),rfl,xJ8 HO.out HS.out.1 HS.out.2.2.2 HS.out.2.2.1⟩,by simp[intOf]⟩
  ·obtain rfl:i=0:=by omega
   have hE:Mk w wr n (dg (x / b)):=hO.congr fun t ht=>if_pos (xW5 _);have hA:=hE.at;have hL:dlen (x / b)≤n:=by rw[←HX.out];exact qZ3 (xW0 _ _)
   have HC:Hid (Mk w wr n (dg (x / b))):=hE;have k40:=r40 (some ⟨w.heap.size,0,none⟩) n n (x / b) wr hL (xL0 _) (by omega) hA
   have HL:Hid (dlen (x / b)≤n):=hL;obtain⟨r,hr⟩:∃ r,x / B^0 % b=r:=⟨_,rfl⟩;rw[hr];have HR:Hid (r=x % b∧r<B):=⟨by rw[←hr,xC7,Nat.div_one],by have:=xW4 (x / B^0) HB.out.1;have:=HB.out.2;omega⟩
   clear hO hca hE hA hL hr hi0
   go_wp2_with (first|(go_at_call 148;refine k40.mono ?_;rintro e w' ⟨rfl,rfl⟩))
   refine xW9 (xE3 rfl _ _ _) rfl ?_;exact⟨_,xJ9 HR.out.1 HR.out.2,HC.out.own HL.out (by omega),HC.out.below⟩
theorem yC1 {v:Value} {x b:Nat} {w:World} (h:Ir w v x) (hx0:x≠0) (hx:dlen x≤1000000000) (hb:0<b) (hbB:b<B) :
  Calls Tryz.prog 219 #[v,.int .u32 (b:Nat)] w fun e w'=>∃ v,e=.returned (.tuple #[v,.int .u32 (x % b:Nat)])∧Own w' w.heap.size v (x / b)∧Bw w w':=by
 obtain⟨ao,ca,rfl,a1,ba,oa,a3,a4⟩:=h;have hp:0<dlen x:=xW1 fun e=>hx0 (qQ7.1 e);exact zW5 ao ba oa _ ca x b w (a3 hp) hp hx rfl hb hbB a4
structure Two (g h:Nat) (w wr:World) (L M:Nat) (f q:Nat→Nat):Prop where
 os:wr.os=w.os
 tape:wr.tape=w.tape
 output:wr.output=w.output
 size:wr.heap.size=w.heap.size
 block:∀ k,k≠g→k≠h→wr.heap[k]?=w.heap[k]?
 ru:RowGe wr g L (fun i=>.int .u32 (f i:Nat))
 rq:RowGe wr h M (fun i=>.int .u32 (q i:Nat))
theorem Two.congr {g h:Nat} {w wr:World} {L M:Nat} {f q f' q':Nat→Nat} (t:Two g h w wr L M f q) (e:∀ i,i<L→f i=f' i) (e':∀ i,i<M→q i=q' i):Two g h w wr L M f' q' :=
 ⟨t.os,t.tape,t.output,t.size,t.block,t.ru.congr (fun i hi=>by rw[e i hi]),t.rq.congr (fun i hi=>by rw[e' i hi])⟩
theorem Two.drewN {g h:Nat} {w wr:World} {L M:Nat} {f q:Nat→Nat} (t:Two g h w wr L M f q) (n:Nat):Two g h w (wr.drewN n) L M f q :=
 ⟨t.os,t.tape,t.output,t.size,t.block,t.ru,t.rq⟩
theorem Two.cellU {g h:Nat} {w wr:World} {L M:Nat} {f q:Nat→Nat} (t:Two g h w wr L M f q) {i:Nat} (hi:i<L):wr.cell? ⟨g,i,none⟩=some (.int .u32 (f i:Nat)):=t.ru.cell hi
theorem Two.cellQ {g h:Nat} {w wr:World} {L M:Nat} {f q:Nat→Nat} (t:Two g h w wr L M f q) {i:Nat} (hi:i<M):wr.cell? ⟨h,i,none⟩=some (.int .u32 (q i:Nat)):=t.rq.cell hi
theorem Two.frozenU {g h:Nat} {w wr:World} {L M:Nat} {f q:Nat→Nat} (t:Two g h w wr L M f q) (i:Nat):wr.frozen? ⟨g,i,none⟩=false:=t.ru.frozen i
theorem Two.frozenQ {g h:Nat} {w wr:World} {L M:Nat} {f q:Nat→Nat} (t:Two g h w wr L M f q) (i:Nat):wr.frozen? ⟨h,i,none⟩=false:=t.rq.frozen i
theorem Two.old {g h:Nat} {w wr:World} {L M:Nat} {f q:Nat→Nat} (t:Two g h w wr L M f q) {p:Addr} {u:Value} (h1:p.block≠g) (h2:p.block≠h) (hc:w.cell? p=some u):wr.cell? p=some u:=(World.cell?_of_block (w:=w) (t.block p.block h1 h2)).trans hc
theorem Two.below {g h b:Nat} {w wr:World} {L M:Nat} {f q:Nat→Nat} (t:Two g h w wr L M f q) (h1:b≤g) (h2:b≤h):Below b w wr:=⟨t.os,t.tape,t.output,by rw[t.size];exact xL0 _,fun k hk=>t.block k (by omega) (by omega)⟩
theorem Two.setU {g h:Nat} {w wr:World} {L M:Nat} {f q:Nat→Nat} (t:Two g h w wr L M f q) (hgh:g≠h) (i d:Nat):Two g h w (wr.setCell ⟨g,i,none⟩ (.int .u32 (d:Nat))) L M (fun j=>if j=i then d else f j) q :=
 ⟨t.os,t.tape,t.output,by rw[←t.size];simp[World.setCell],fun k h1 h2=>(Below.heap_setCell _ _ _ _ h1).trans (t.block k h1 h2),(t.ru.set i _).congr (fun j _=>by split <;> rfl),t.rq.of_block (Below.heap_setCell _ _ _ _ (Ne.symm hgh))⟩
theorem Two.setQ {g h:Nat} {w wr:World} {L M:Nat} {f q:Nat→Nat} (t:Two g h w wr L M f q) (hgh:g≠h) (i d:Nat):Two g h w (wr.setCell ⟨h,i,none⟩ (.int .u32 (d:Nat))) L M f (fun j=>if j=i then d else q j) :=
 ⟨t.os,t.tape,t.output,by rw[←t.size];simp[World.setCell],fun k h1 h2=>(Below.heap_setCell _ _ _ _ h2).trans (t.block k h1 h2),t.ru.of_block (Below.heap_setCell _ _ _ _ hgh),(t.rq.set i _).congr (fun j _=>by split <;> rfl)⟩
theorem Two.putU {g h:Nat} {w wr:World} {L M off j z:Nat} {f q:Nat→Nat} (t:Two g h w wr L M (put off j z f) q) (hgh:g≠h) {d:Int} (hd:d=(dg z j:Nat)):Two g h w (wr.setCell ⟨g,off+j,none⟩ (.int .u32 d)) L M (put off (j+1) z f) q:=by
 subst hd;refine(t.setU hgh (off+j) _).congr (fun s hs=>?_) (fun _ _=>rfl)
 unfold put;by_cases e:s=off+j
 ·subst e;rw[if_pos rfl,if_pos (by omega),Nat.add_sub_cancel_left]
 ·rw[if_neg e];by_cases e2:off≤s∧s<off+j
  ·rw[if_pos e2,if_pos (by omega)]
  ·rw[if_neg e2,if_neg (by omega)]
theorem zX8 {Y V j t:Nat}:dg (Y % (V*B^(j+1))) (j+t)=dg (Y / B^j % (V*B)) t:=by
 have e:V*B^(j+1)=B^j*(V*B):=by rw[xC5];grind
 rw[←qD0,e,Nat.mod_mul_right_div_self]
theorem zR7 {Y V V' j t:Nat} (h:t<j) (hV:0<V):dg (Y % (V*B^j)) t=dg Y t:=by
 have h1:dg (Y % (V*B^j) % B^j) t=dg (Y % (V*B^j)) t:=qF4 h;rw[←h1,Nat.mod_mul_left_mod,qF4 h]
theorem yT9 {Y V j t:Nat}:dg (Y % (V*B^j)) (j+t)=dg (Y / B^j % V) t:=by
 have e:V*B^j=B^j*V:=xC4 _ _;rw[←qD0,e,Nat.mod_mul_right_div_self]
theorem zR6 {Y V j:Nat}:Y / B^j % (V*B) / V=dg (Y / V) j:=by
 unfold dg;rw[Nat.mod_mul_right_div_self,xC0,xC0,xC4]
theorem yV {Y V j:Nat}:Y / B^j % (V*B) % V=Y / B^j % V:=Nat.mod_mul_right_mod _ _ _
theorem zT9 {X n:Nat} (hn:1≤n) (h:X<B^(n+1)):dg X n*B+dg X (n - 1)=X / B^(n - 1):=by
 obtain⟨m,rfl⟩:∃ m,n=m+1:=⟨n - 1,by omega⟩
 rw[xE5];unfold dg;rw[xC5,←xC0];have h1:X / B^m / B<B:=by
  rw[xC0,←xC5];refine(xE6 (Nat.pow_pos qV4)).2 ?_
  rw[xC4,←xC5];exact h
 rw[xW3 h1];have:=Nat.div_add_mod (X / B^m) B
 rw[xC4];omega
structure Gs (R V v1 v2 t r3 n:Nat):Prop where
 n2:2≤n
 v1p:1≤v1
 v1h:B≤2*v1
 v1B:v1<B
 v2B:v2<B
 r3B:r3<B
 V0:0<V
 Vlo:(v1*B+v2)*B^(n - 2)≤V
 Vhi:V<(v1*B+v2+1)*B^(n - 2)
 Rlo:(t*B+r3)*B^(n - 2)≤R
 Rhi:R<(t*B+r3+1)*B^(n - 2)
 V1:v1*B^(n - 1)≤V
 R1:R<(t+1)*B^(n - 1)
 tle:t≤v1*B+v2
 RV:R<V*B
 tB:t<B*B
theorem qB4 {X m k:Nat} (h:X / B^k=m):m*B^k≤X∧X<(m+1)*B^k:=by
 have hp:0<B^k:=Nat.pow_pos qV4;subst h;exact⟨xE9 _ _,Nat.lt_mul_of_div_lt (Nat.lt_succ_self _) hp⟩
theorem gs_of {R V n:Nat} (hn:2≤n) (hV:dlen V=n) (hh:B≤2*dg V (n - 1)) (hR:R<V*B):Gs R V (dg V (n - 1)) (dg V (n - 2)) (R / B^(n - 1)) (dg R (n - 2)) n:=by
 have hB:=qV4;have hVlt:V<B^n:=hV ▸ qY V;have hV0:0<V:=xW1 fun e=>by rw[e,qQ5] at hV;omega
 have e1:V / B^(n - 2)=dg V (n - 1)*B+dg V (n - 2):=by
  have:=zT9 (X:=V) (n:=n - 1) (by omega) (by rw[show n - 1+1=n by omega];exact hVlt)
  rw[show n - 1 - 1=n - 2 by omega] at this
  exact this.symm
 have e2:V / B^(n - 1)=dg V (n - 1):=by
  unfold dg;rw[xW3];refine(xE6 (Nat.pow_pos hB)).2 ?_
  rw[xC4,←xC5,show(n - 1).succ=n by omega];exact hVlt
 have e3:R / B^(n - 2)=R / B^(n - 1)*B+dg R (n - 2):=by
  unfold dg;have h1:=Nat.div_add_mod (R / B^(n - 2)) B;rw[xC0,←xC5,show(n - 2).succ=n - 1 by omega] at h1
  rw[xC4];omega
 obtain⟨a1,a2⟩:=qB4 e1;obtain⟨b1,b2⟩:=qB4 e2;obtain⟨c1,c2⟩:=qB4 e3;obtain⟨d1,d2⟩:=qB4 (X:=R) (k:=n - 1) rfl;have hn1:B^(n - 1)=B*B^(n - 2):=by rw[←Nat.pow_succ'];congr 1;omega
 have ht:R / B^(n - 1)≤dg V (n - 1)*B+dg V (n - 2):=by
  refine Nat.le_of_lt_succ ((xE6 (Nat.pow_pos hB)).2 (xL8 hR ?_));rw[hn1,xC4 V B,Nat.mul_left_comm];exact xW2 _ (xE8 a2)
 have hv1:=qZ4 V (n - 1);have hv2:=qZ4 V (n - 2);refine⟨hn,by omega,hh,hv1,hv2,qZ4 _ _,hV0,a1,a2,c1,c2,b1,d2,ht,hR,?_⟩
 have:dg V (n - 1)*B+B≤B*B:=by
  have:=xL7 B (show dg V (n - 1)+1≤B by omega)
  rw[Nat.add_mul,Nat.one_mul] at this;exact this
 omega
theorem Gs.start {R V v1 v2 t r3 n:Nat} (h:Gs R V v1 v2 t r3 n):Kn R V v1 t (t / v1) (t % v1):=yH0 (by have:=h.n2;omega) h.v1p h.v1h h.v2B h.V1 h.R1 h.tle
theorem Gs.less {R V v1 v2 t r3 n d r:Nat} (h:Gs R V v1 v2 t r3 n) (k:Kn R V v1 t d r) (hc:B≤d∨r*B+r3<d*v2):Kn R V v1 t (d - 1) (r+v1)∧1≤d:=k.less h.n2 h.Vlo h.Rhi h.RV hc
theorem Gs.done {R V v1 v2 t r3 n d r:Nat} (h:Gs R V v1 v2 t r3 n) (k:Kn R V v1 t d r) (hd:d<B) (hc:d*v2≤r*B+r3∨B≤r):R / V≤d∧d≤R / V+1:=k.done h.n2 h.v1p h.v2B h.V0 h.Vhi h.Rlo hd hc
theorem Gs.brk {R V v1 v2 t r3 n d r:Nat} (h:Gs R V v1 v2 t r3 n) (k:Kn R V v1 t d r) (hr:r<B) (hc:B≤r+v1):d - 1<B:=k.brk h.v1h h.v2B hr h.tle hc
theorem zG6 {u y b:Nat} (hu:u<B) (hy:y<B) (hb:b≤1):∃ W:Nat,IntKind.u64.wrap (IntKind.u64.wrap ((u:Int) - (y:Int)) - (b:Int))=(W:Int)∧(W:Int) % 4294967296=(((u+B+B - y - b) % B:Nat):Int)∧(W:Int) / 9223372036854775808=((if u<y+b then 1 else 0:Nat):Int):=by
 unfold B at *;rw[xW7,xW7];by_cases h:u<y+b
 ·refine⟨18446744073709551616+u - y - b,by omega,by omega,?_⟩
  rw[if_pos h];omega
 ·refine⟨u - y - b,by omega,by omega,?_⟩
  rw[if_neg h];omega
theorem yI {R V D s n:Nat} (hD:D<B) (hs:s<n+1):∃ P W c' y b' sd:Nat,
  IntKind.u64.wrap (IntKind.u64.wrap ((D:Int)*((dg V s:Nat):Int))+((mulc V D s:Nat):Int))=(P:Int)∧(P:Int) / 4294967296=(c':Int)∧(P:Int) % 4294967296=(y:Int)∧IntKind.u64.wrap (y:Int)=(y:Int) ∧
  IntKind.u64.wrap (IntKind.u64.wrap (((dg R s:Nat):Int) - (y:Int)) - ((subb R (V*D) s:Nat):Int))=(W:Int)∧(W:Int) % 4294967296=(sd:Int)∧(W:Int) / 9223372036854775808=(b':Int) ∧
  c'=mulc V D (s+1)∧b'=subb R (V*D) (s+1)∧sd=dg (wsub R (V*D) (n+1)) s:=by
 have hd:=qZ4 V s;have hc:=zK2 V D s;have hy:=qZ4 (V*D) s;have hf:=qB1 (c:=mulc V D s) (f:=0) (d:=D) (e:=dg V s) (by omega) (by unfold B;omega) hD hd
 have e1:dg (V*D) s=(mulc V D s+dg V s*D) % B:=qL7 V D s;have e2:=qP3 V D s;obtain⟨W,w1,w2,w3⟩:=zG6 (qZ4 R s) hy (qD9 R (V*D) s);refine⟨mulc V D s+dg V s*D,W,_,_,_,_,?_,?_,?_,qZ6 hy,w1,w2,w3,rfl,(qF1 R (V*D) s).symm,(qL6 hs).symm⟩
 ·rw[←xC8,xC4 D];generalize dg V s*D=m at *;rw[xW7,xW7];omega
 ·rw[e2];generalize mulc V D s+dg V s*D=m;unfold B;omega
 ·rw[e1];generalize mulc V D s+dg V s*D=m;unfold B;omega
theorem xF4 {R V D n:Nat} (hD:D<B) (hV:V<B^n) (hR:R<B^(n+1)):∃ W sd:Nat,
  IntKind.u64.wrap (IntKind.u64.wrap (((dg R n:Nat):Int) - ((mulc V D n:Nat):Int)) - ((subb R (V*D) n:Nat):Int))=(W:Int)∧(W:Int) % 4294967296=(sd:Int)∧((W:Int) / 9223372036854775808 != 0)=decide (R<V*D)∧sd=dg (wsub R (V*D) (n+1)) n:=by
 have hc:=zK2 V D n;have e1:dg (V*D) n=mulc V D n:=by
  rw[qL7,qJ5 hV,Nat.zero_mul,Nat.add_zero,xW3 (by omega)]
 obtain⟨W,w1,w2,w3⟩:=zG6 (qZ4 R n) (qZ4 (V*D) n) (qD9 R (V*D) n);rw[e1] at w1;refine⟨W,_,w1,w2,?_,(qL6 (by omega)).symm⟩
 rw[w3,←qF1];have hfin:subb R (V*D) (n+1)=if R<V*D then 1 else 0:=by
  unfold subb;have hm:V*D<B^(n+1):=by rw[qX5];exact Nat.mul_lt_mul_of_lt_of_le hV (xE8 hD) qV4
  rw[xW3 hR,xW3 hm]
 rw[hfin];by_cases h:R<V*D <;> simp[h]
theorem xZ7 (z V s:Nat):∃ T c' sd:Nat,IntKind.u64.wrap (IntKind.u64.wrap (((addc z V s:Nat):Int)+((dg z s:Nat):Int))+((dg V s:Nat):Int))=(T:Int)∧(T:Int) % 4294967296=(sd:Int)∧(T:Int) / 4294967296=(c':Int)∧c'=addc z V (s+1)∧sd=dg (z+V) s:=by
 have h1:=qZ4 z s;have h2:=qZ4 V s;have h3:=qU7 z V s;refine⟨addc z V s+dg z s+dg V s,_,_,?_,?_,?_,rfl,rfl⟩
 ·rw[xW7,xW7];unfold B at *; omega
 ·rw[qD1];generalize addc z V s+dg z s+dg V s=m;unfold B;omega
 ·rw[qD4];generalize addc z V s+dg z s+dg V s=m;unfold B;omega
theorem xR7 {z V n:Nat} (hV:V<B^n):∃ sd:Nat,IntKind.u32.wrap (((dg z n:Nat):Int)+((addc z V n:Nat):Int) % 4294967296)=(sd:Int)∧sd=dg (z+V) n:=by
 have h1:=qZ4 z n;have h3:=qU7 z V n;refine⟨_,?_,rfl⟩
 rw[qD1,qJ5 hV,IntKind.wrap_u32];unfold B at *; omega
theorem xN1 {R V D n:Nat} (hR:R<B^(n+1)) (h:¬ R<V*D) (h1:R / V≤D) (hV:0<V):D=R / V∧wsub R (V*D) (n+1)=R % V:=by
 have h2:D≤R / V:=(Nat.le_div_iff_mul_le hV).2 (by rw[xC4];omega)
 have h3:D=R / V:=by omega
 refine⟨h3,?_⟩
 rw[qF6 hR (by omega),h3]
 have:=Nat.div_add_mod R V
 omega
theorem xN2 {R V D n:Nat} (hR:R<B^(n+1)) (hm:V*D<B^(n+1)) (h:R<V*D) (h1:D≤R / V+1) (hV:0<V):D=R / V+1∧wsub R (V*D) (n+1)+V=R % V+B^(n+1):=by
 have h2:R / V<D:=(xE6 hV).2 (by rw[xC4];exact h)
 have h3:D=R / V+1:=by omega
 refine⟨h3,?_⟩
 unfold wsub;rw[xW3 hm,xW3 (by omega)]
 have:=Nat.div_add_mod R V
 have e:V*D=V*(R / V)+V:=by rw[h3,Nat.mul_add,xE1]
 have hp:=xW4 R hV;omega
theorem yO8 {x n t:Nat} (h:t<n):dg (x+B^n) t=dg x t:=by
 rw[←qF4 h,Nat.add_mod_right,qF4 h]
theorem zI3 {Y V R j n z:Nat} {f:Nat→Nat} (hV0:0<V) (hV:V<B^n) (hR:R=Y / B^j % (V*B)) (hRB:R<B^(n+1)) (hz:∀ t,t<n+1→dg z t=dg (R % V) t) (hf:∀ i,f i=if j≤i∧i<j+(n+1)then dg z (i - j)else dg (Y % (V*B^(j+1))) i) (i:Nat):f i=dg (Y % (V*B^j)) i:=by
 rw[hf];by_cases h1:i<j
 ·rw[if_neg (by omega),zR7 (V':=0) (by omega) hV0,zR7 (V':=0) h1 hV0]
 ·obtain⟨t,rfl⟩:∃ t,i=j+t:=⟨i - j,by omega⟩
  rw[Nat.add_sub_cancel_left,yT9,zX8,←hR];by_cases h2:t<n+1
  ·rw[if_pos (by omega),hz t h2,hR,yV]
  ·rw[if_neg (by omega),qJ5 (xL8 hRB (xL6 qV4 (by omega)))]
   refine(qJ5 (xL8 (xW4 _ hV0) (xE8 (xL8 hV (xL6 qV4 (by omega)))))).symm
theorem qC4 {w2 wc:World} {b o n y:Nat} (hcell:∀ i,i<n→w2.cell? ⟨b,o+i,none⟩=some (.int .u32 (dg y i:Nat))) (hb:Bw w2 wc) :
  ∀ j u,(cells y n)[j]?=some u→wc.cell? ((⟨b,o,none⟩:Addr).add j)=some u:=fun j u hj=>by
 have hjl:j<n:=by
  have:=(List.getElem?_eq_some_iff.1 hj).1
  rwa [qZ9] at this
 rw[qK4 hjl] at hj;rw[show(⟨b,o,none⟩:Addr).add j=⟨b,o+j,none⟩ by simp[Addr.add],←hj]
 exact(hb.cell (World.block_lt_of_cell? _ _ (hcell j hjl))).trans (hcell j hjl)
theorem zX {y n:Nat}:∀ u ∈ cells y n,u.oneCell'=true:=by
 intro u hu;simp[cells] at hu;obtain⟨j,-,rfl⟩:=hu;rfl
theorem zP4 {w:World} {b b' n:Nat} {v:Value} {xs:List Value} (h:w.ownsRow b 50 1 v n xs) (hb:b'≤b):w.ownsRow b' 50 1 v n xs:=by
 refine⟨h.1,?_⟩
 rcases h.2 with h|⟨g,cap,c,h1,h2,h3⟩
 ·exact .inl h
 ·exact .inr ⟨g,cap,c,h1,xW hb h2,h3⟩
theorem zN9 {w3 w4 w5:World} {n Y:Nat} {v:Value} (h4:Bw w3 w4) (ho:w5.ownsRow w4.heap.size 50 1 v (0+n) ([]++cells Y n)) (hg:w4.grownBy w5 none):w5.ownsRow w3.heap.size 50 1 v n (cells Y n)∧Bw w3 w5:=by
 rw[Nat.zero_add,List.nil_append] at ho;exact⟨zP4 ho h4.size,h4.grown hg h4.size (fun k hk=>by cases hk)⟩
def slen:Value→Nat
 | .slice _ n _=>n
 | _=>0
theorem yG0 {w:World} {base n y cap:Nat} {ao:Option Addr} (h:w.ownsRow base 50 1 (.slice ao n cap) n (cells y n)) (hn:0<n):∃ g,ao=some ⟨g,0,none⟩∧base≤g∧RowGe w g n (fun i=>.int .u32 (dg y i:Nat)):=by
 rcases h.2 with ⟨hv,h0⟩|⟨g,cap',c,hv,hb,hc,h1,h2,h3,h4⟩
 ·omega
 ·simp only[Value.slice.injEq] at hv;refine⟨g,hv.1,hb,c,hc,by omega,fun i hi=>?_⟩
  have h5:(cells y n)[i]?=c[i]?:=by
   rw[←h4,xE1,List.getElem?_take,if_pos hi,Array.getElem?_toList]
  rw[qK4 hi] at h5;exact h5.symm
theorem zT5 {w3 wr w8:World} {g na Y V M bv:Nat} (hB:Bw w3 wr) (hr:RowGe wr g (na+1) (fun i=>.int .u32 (dg Y i:Nat))) (hg:w3.heap.size≤g) (hw:w8=wr.alloc (.cells (madeCells #[.int .u32 0] (M+1)) 50)) (hYV:Y<V*B^(M+1)) (hbv:bv<w3.heap.size) :
  Two g wr.heap.size w8 w8 (na+1) (M+1) (dg (Y % (V*B^(M+1)))) (fun t=>if M+1≤t then dg (Y / V) t else 0)∧Bw w3 w8∧g≠wr.heap.size∧bv≠g∧bv≠wr.heap.size:=by
 have hgl:=hr.lt;have hs:=hB.size;rw[xW3 hYV];refine⟨⟨rfl,rfl,rfl,rfl,fun _ _ _=>rfl,?_,?_⟩,?_,by omega,by omega,by omega⟩
 ·exact hr.of_block (by rw[hw];exact Lib.alloc_old wr _ _ (by omega))
 ·have:=(Mk.start wr (M+1)).row
  rw[←hw] at this;exact(RowGe.of this (xL0 _)).congr fun i hi=>by rw[if_neg (by omega)]
 ·rw[hw];exact hB.alloc hs _
theorem zB7 {D:Nat} (h:1≤D):Value.int .u64 ((D:Int) - 1)=.int .u64 ((D - 1:Nat):Int):=congrArg (Value.int .u64) (by omega)
theorem zI7 {a b D:Nat} (h:a≤D∧D≤b) (h2:D<B):a≤D∧D≤b∧D<B:=⟨h.1,h.2,h2⟩
theorem xG6 {off j z s:Nat} {f:Nat→Nat} (h:s<j):put off j z f (off+s)=dg z s:=by
 unfold put;rw[if_pos (by omega),Nat.add_sub_cancel_left]
theorem yZ8 {g h:Nat} {w8 wi:World} {na M j q z V R D Y sd:Nat} (HM:Two g h w8 wi (na+1) (M+1) (put j q (z+V) (put j (q+1) z (dg (Y % (V*B^(j+1)))))) (fun t=>if j+1≤t then dg (Y / V) t else 0)) (hgh:g≠h) (hsd:sd=dg (z+V) q) (hz:z=wsub R (V*D) (q+1)) (hneg:R<V*D) (hD:R / V≤D∧D≤R / V+1∧D<B) (hN:V<B^q∧0<V) (hR:R=Y / B^j % (V*B)∧R<B^(q+1)) (hj:j≤M) :
  (∃ jj:Nat,jj≤M+1∧Value.int .i64 ((j:Int) - 1)=.int .i64 ((jj:Int) - 1)∧Two g h w8 ((wi.setCell ⟨g,j+q,none⟩ (.int .u32 (sd:Nat))).setCell ⟨h,j,none⟩ (.int .u32 ((D:Int) - 1))) (na+1) (M+1) (dg (Y % (V*B^jj))) (fun t=>if jj≤t then dg (Y / V) t else 0))∧(intOf (Value.int .i64 ((j:Int) - 1))+1).toNat<(intOf (Value.int .i64 (((j+1:Nat):Int) - 1))+1).toNat:=by
 have hm:V*D<B^(q+1):=by rw[qX5];exact Nat.mul_lt_mul_of_lt_of_le hN.1 (xE8 hD.2.2) qV4
 obtain⟨f1,f2⟩:=xN2 hR.2 hm hneg hD.2.1 hN.2;rw[←hz] at f2;refine⟨⟨j,by omega,rfl,?_⟩,by simp[intOf]⟩
 have t1:=HM.putU hgh (d:=(sd:Int)) (by rw[hsd])
 have t2:=t1.setQ hgh j (D - 1);have hD1:1≤D:=by rw[f1];exact Nat.le_add_left _ _
 have hDe:D - 1=R / V:=by rw[f1,xE5]
 rw[show((D:Int) - 1)=((D - 1:Nat):Int) by omega]
 refine t2.congr (fun i hi=>?_) (fun i hi=>?_)
 ·refine zI3 (z:=z+V) hN.2 hN.1 hR.1 hR.2 (fun t ht=>by rw[f2,yO8 ht]) (fun i=>?_) i
  unfold put;by_cases h1:j≤i∧i<j+(q+1)
  ·rw[if_pos h1,if_pos h1]
  ·rw[if_neg h1,if_neg h1,if_neg h1]
 ·show(if i=j then D - 1 else if j+1≤i then dg (Y / V) i else 0)=if j≤i then dg (Y / V) i else 0
  by_cases h1:i=j
  ·rw[if_pos h1,if_pos (by omega),h1,←zR6,←hR.1];exact hDe
  ·rw[if_neg h1];by_cases h2:j+1≤i
   ·rw[if_pos h2,if_pos (by omega)]
   ·rw[if_neg h2,if_neg (by omega)]
theorem yZ7 {g h:Nat} {w8 wk:World} {na M j q V R D Y:Nat} (HM:Two g h w8 wk (na+1) (M+1) (put j (q+1) (wsub R (V*D) (q+1)) (dg (Y % (V*B^(j+1))))) (fun t=>if j+1≤t then dg (Y / V) t else 0)) (hgh:g≠h) (hF:D=R / V∧wsub R (V*D) (q+1)=R % V) (hN:V<B^q∧0<V) (hR:R=Y / B^j % (V*B)∧R<B^(q+1)) (hj:j≤M) :
  (∃ jj:Nat,jj≤M+1∧Value.int .i64 ((j:Int) - 1)=.int .i64 ((jj:Int) - 1)∧Two g h w8 (wk.setCell ⟨h,j,none⟩ (.int .u32 (D:Int))) (na+1) (M+1) (dg (Y % (V*B^jj))) (fun t=>if jj≤t then dg (Y / V) t else 0))∧(intOf (Value.int .i64 ((j:Int) - 1))+1).toNat<(intOf (Value.int .i64 (((j+1:Nat):Int) - 1))+1).toNat:=by
 refine⟨⟨j,by omega,rfl,?_⟩,by simp[intOf]⟩
 have t2:=HM.setQ hgh j D;refine t2.congr (fun i hi=>?_) (fun i hi=>?_)
 ·refine zI3 (z:=wsub R (V*D) (q+1)) hN.2 hN.1 hR.1 hR.2 (fun t ht=>by rw[hF.2]) (fun i=>?_) i
  rfl
 ·show(if i=j then D else if j+1≤i then dg (Y / V) i else 0)=if j≤i then dg (Y / V) i else 0
  by_cases h1:i=j
  ·rw[if_pos h1,if_pos (by omega),h1,←zR6,←hR.1];exact hF.1
  ·rw[if_neg h1];by_cases h2:j+1≤i
   ·rw[if_pos h2,if_pos (by omega)]
   ·rw[if_neg h2,if_neg (by omega)]
theorem zE {w3 wr w4:World} {Y j na:Nat} {v':Value} {au:Option Addr} {cu:Nat} (ho:wr.ownsRow w3.heap.size 50 1 (.slice au j cu) j (cells Y j)) (hB:Bw w3 wr) (h1:dlen Y≤j) (h2:j<na+1)
  (hown:w4.ownsRow w3.heap.size 50 1 v' (j+1) (cells Y j ++ [.int .u32 0])) (hg:(wr.alloc (.cells #[.int .u32 0] 50)).grownBy w4 (Value.slice au j cu).ownBlock) :
  (∃ j_1:Nat,dlen Y≤j_1∧j_1≤na+1∧w4.ownsRow w3.heap.size 50 1 v' j_1 (cells Y j_1)∧Bw w3 w4)∧na+1 - slen v'<na+1 - slen (.slice au j cu):=by
 have e:cells Y (j+1)=cells Y j ++ [.int .u32 0]:=by rw[qS4,qY6 h1];rfl
 rw[←e] at hown;obtain⟨ao',cap',rfl,-,-⟩:=qJ hown;refine⟨⟨j+1,by omega,by omega,hown,?_⟩,by simp[slen];omega⟩
 exact(hB.alloc hB.size _).grown hg (by simp;have:=hB.size;omega) (fun k hk=>(ho.lt k hk).1)
theorem xU6 (ao bo:Option Addr) (na nb ca cb x y p S bly Y V M:Nat) (w:World) (hna:na≤100000000) (hnb:nb≤100000000) (hb1:2≤nb) (hab:nb+M=na) (hS:S<32) (hb:bly≤3200000000)
  (hp:((bly:Int) - 1).tmod 32=(p:Int)) (hpS:32 - (p:Int) - 1=(S:Int)) (hbp:1≤bly) (hYn:0<dlen Y) (hYl:dlen Y≤na+1) (hVn:dlen V=nb) (hVt:B≤2*dg V (nb - 1)) (hYV:Y<V*B^(M+1))
  (kO:∀ W,Bw w W→Calls Tryz.prog 140 #[.slice ao na ca,.slice bo nb cb] W fun e w'=>e=.returned (.int .i64 (cmpI x y))∧Bw W w') (hc:¬ cmpI x y<0)
  (kZ:∀ W,Bw w W→Calls Tryz.prog 185 #[.slice bo nb cb] W fun e w'=>e=.returned (.int .i64 bly)∧w'=W)
  (kU:∀ W,Bw w W→Calls Tryz.prog 137 #[.slice bo nb cb,.int .i64 (S:Int)] W fun e w'=>∃ v,e=.returned v∧Ir w' v V∧Bw W w')
  (kX:∀ W,Bw w W→Calls Tryz.prog 137 #[.slice ao na ca,.int .i64 (S:Int)] W fun e w'=>∃ v,e=.returned v∧Ir w' v Y∧Bw W w') :
  Calls Tryz.prog 186 #[.slice ao na ca,.slice bo nb cb] w fun e w'=>∃ q r,e=.returned (.tuple #[q,r])∧Ir w' q (Y / V)∧Ir w' r (Y % V / 2^S)∧Bw w w':=by
 have hn1:((nb:Int)==1)=false:=by simp;omega
 have k0:=kO w (xL1 _ _);have HKZ:Hid _:=kZ;have HKU:Hid _:=kU;have HKX:Hid _:=kX;have HY:Hid (0<dlen Y∧dlen Y≤na+1):=⟨hYn,hYl⟩;have HVV:Hid (dlen V=nb∧B≤2*dg V (nb - 1)∧Y<V*B^(M+1)):=⟨hVn,hVt,hYV⟩;clear kO kZ kU kX hYn hYl hVn hVt hYV
 go_enter Tryz.func186,Tryz.ntmps186
 go_wp2_with fail;refine k0.mono ?_;rintro r w1 ⟨rfl,hb1'⟩;have HB1:Hid (Bw w w1):=hb1';have kz:=HKZ.out w1 hb1';have ku:=HKU.out w1 hb1';clear k0 hb1' HKZ HKU
 go_wp2_with fail;refine kz.mono ?_;rintro r w2 ⟨rfl,rfl⟩;clear kz
 go_wp2_with fail;refine ku.mono ?_;rintro r w3 ⟨vv,rfl,hIv,hb3⟩;have HB3:Hid (Bw w w3):=HB1.out.trans (hb3.mono HB1.out.size);have HV:Hid (Ir w3 vv V):=hIv;have HB33:Hid (Bw w3 w3.drew):=(⟨rfl,rfl,rfl,xL0 _,fun _ _=>rfl⟩:Bw w3 w3.drew);clear ku hIv hb3
 go_upto_region 8 with fail;have hmk:=run_make_row' (P:=Tryz.prog) 82 50 (.int .u32 0) 4 Tryz.underlying82 Tryz.info50 rfl .i64 .i64 0 (by omega) (by omega)
 rw[show((0:Nat):Int)=0 from rfl] at hmk;obtain⟨i0,hi0,hz0,hz1,hz2⟩:=info_parts Tryz.info50
 go_cut [10] from 60 to 64 (fun v wx=>Hid (wx.ownsRow w3.heap.size 50 1 v (dlen Y) (cells Y (dlen Y))∧Bw w3 wx))
 case first =>
  have hP1:Bw w w3.drew:=HB3.out.trans (HB33.out.mono HB3.out.size);have hP2:∀ o,Below w.heap.size w (w3.drew.alloc o):=fun o=>hP1.alloc hP1.size o;have hQ2:∀ o,Below w3.heap.size w3 (w3.drew.alloc o):=fun o=>HB33.out.alloc HB33.out.size o;have kx:=HKX.out;have hYp:=HY.out.1;have hYq:=HY.out.2
  go_region_held3 (fun _=>True) (trivial)
   (first|(go_at_call 137;refine(kx _ (by first|exact hP1|exact hP2 _)).mono ?_;rintro r w4 ⟨vx,rfl,⟨ax,cx,rfl,hcx,bx,ox,hbx,hcellx⟩,hb4⟩;obtain rfl:=hbx hYp)|(refine step_append_grows rfl (.tmp 60) (.tmp 63) 82 rfl 50 i0 (.int .u32 0) 1 4 Tryz.underlying82 hi0 hz0 hz1 hz2 rfl (by decide) (some ⟨_,0,none⟩) 0 0 [] (by simp[Act.eval,Act.put];rfl) (fun h=>by cases h) rfl (fun _ _ j u h=>by simp at h) ⟨bx,ox,none⟩ (dlen Y) cx (cells Y (dlen Y)) (by simp[Act.eval,Act.put]) (by rw[qZ9,xE1]) (qC4 hcellx (by first|exact xL1 _ _|exact(xL1 _ _).alloc (xL0 _) _)) zX (by omega) (by unfold maxLen;omega) (by omega) ?_;intro v5 w5 hown hgrow))
  all_goals go_wp2_with fail
  all_goals go_meet
  ·exact zN9 ((hQ2 _).trans (hb4.mono (hQ2 _).size)) hown hgrow
  ·exact zN9 ((HB33.out.trans (hb4.mono HB33.out.size)).alloc (HB33.out.trans (hb4.mono HB33.out.size)).size _) hown hgrow
 case rest =>
  obtain⟨w6,hw6⟩:∃ W2:World,W2=wc:=⟨_,rfl⟩;rw[←hw6] at hcut ⊢;clear hw6 wc hmk HKX
  go_wp2_with fail
  go_loopw [10] (fun v wr=>∃ j:Nat,dlen Y≤j∧j≤na+1∧wr.ownsRow w3.heap.size 50 1 v j (cells Y j)∧Bw w3 wr) (fun v _=>na+1 - slen v)
  case atStart=>exact⟨dlen Y,xL0 _,HY.out.2,hcut.out.1,hcut.out.2⟩
  case round =>
   obtain⟨j,hj1,hj2,ho,hB⟩:=hrel;obtain⟨au,cu,rfl,hcu,hAu⟩:=qJ ho;by_cases hjn:j<na+1
   ·have hji:(j:Int)≤(na:Int):=by omega
    have HO:Hid (wr.ownsRow w3.heap.size 50 1 (.slice au j cu) j (cells Y j)∧Bw w3 wr):=⟨ho,hB⟩;have hbs:w3.heap.size≤wr.heap.size:=hB.size;clear hB hcut hAu
    go_wp2_with (at_builtin;refine wpList_append_own _ rfl _ _ 82 rfl w3.heap.size 50 i0 (.int .u32 0) 1 4 Tryz.underlying82 hi0 hz0 hz1 hz2 rfl (by decide) _ _ _ rfl (ho.alloc _) ⟨wr.heap.size,0,none⟩ 1 1 [.int .u32 0] rfl rfl (cell_one_new _ _ _) (by intro u hu;simp at hu;subst hu;rfl) (by unfold maxLen;omega) (by omega) (by simp;omega) ?_)
    intro v' w4 hown4 hgrow _
    go_wp2;exact zE HO.out.1 HO.out.2 hj1 hjn hown4 hgrow
   ·obtain rfl:j=na+1:=by omega
    obtain⟨g,hg⟩:=yG0 ho (by omega)
    obtain⟨rfl,hg3,hgrow⟩:=hg;obtain⟨av,cv,rfl,hcv,bv,ov,hbv,hcellv⟩:=HV.out;have hdv:=HVV.out.1;rw[hdv] at hcv hbv hcellv ⊢;obtain rfl:=hbv (by omega)
    have hmk:=run_make_row' (P:=Tryz.prog) 82 50 (.int .u32 0) 4 Tryz.underlying82 Tryz.info50 rfl .i64 .i64 (M+1) (by omega) (by omega) wr
    have eM:(na:Int)+1 - (nb:Int) - 1=(M:Int):=by omega
    have eM2:(na:Int)+1 - (nb:Int)=(M:Int)+1:=by omega
    rw[show((M+1:Nat):Int)=(M:Int)+1 by omega] at hmk
    have HW:Hid (Bw w3 wr∧RowGe wr g (na+1) (fun i=>.int .u32 (dg Y i:Nat))∧w3.heap.size≤g∧na+1≤cu):=⟨hB,hgrow,hg3,hcu⟩;have HCV:Hid (∀ i,i<nb→w3.cell? ⟨bv,ov+i,none⟩=some (.int .u32 (dg V i:Nat))):=hcellv;clear ho hB hcut hAu hcellv hbv hgrow hi0 hz0 hz1 hz2 hjn HV hdv
    go_wp2_with fail;obtain⟨w8,hw8⟩:∃ w8,w8=wr.alloc (.cells (madeCells #[.int .u32 0] (M+1)) 50):=⟨_,rfl⟩;obtain⟨hT,hBw8,hgh,hbg,hbh⟩:=zT5 HW.out.1 HW.out.2.1 HW.out.2.2.1 hw8 HVV.out.2.2 (World.block_lt_of_cell? _ _ (HCV.out 0 (by omega)))
    rw[←hw8];have HT:Hid (Two g wr.heap.size w8 w8 (na+1) (M+1) (dg (Y % (V*B^(M+1)))) (fun t=>if M+1≤t then dg (Y / V) t else 0)):=hT;obtain⟨h,hh⟩:∃ h,h=wr.heap.size:=⟨_,rfl⟩;rw[←hh] at hgh hbh HT ⊢;have HW8:Hid (Bw w3 w8∧w3.heap.size≤g∧w3.heap.size≤h):=⟨hBw8,HW.out.2.2.1,by rw[hh];exact HW.out.1.size⟩
    clear hw8 hT hBw8 hh hmk HW
    go_loopw [14] (fun c wr=>∃ jj:Nat,jj≤M+1∧c=.int .i64 ((jj:Int) - 1)∧Two g h w8 wr (na+1) (M+1) (dg (Y % (V*B^jj))) (fun t=>if jj≤t then dg (Y / V) t else 0)) (fun c _=>(intOf c+1).toNat)
    case atStart=>exact⟨M+1,xL0 _,by rw[show((M+1:Nat):Int) - 1=(M:Int) by omega],HT.out⟩
    case round =>
     obtain⟨jj,hjj,rfl,hTw⟩:=hrel;by_cases hj0:0<jj
     ·obtain⟨j,rfl⟩:∃ j,jj=j+1:=⟨jj - 1,by omega⟩
      obtain⟨R,hR⟩:∃ R,R=Y / B^j % (V*B):=⟨_,rfl⟩;have hV0:0<V:=xW1 fun e=>by have:=HVV.out.1;rw[e,qQ5] at this;omega
      have hRV:R<V*B:=by rw[hR];exact xW4 _ (Nat.mul_pos hV0 qV4)
      have hRB:R<B^(nb+1):=by
       rw[xC5];exact xL8 hRV (xL7 _ (xE8 (by have:=qY V;rw[HVV.out.1] at this;exact this)))
      have gs:=gs_of hb1 HVV.out.1 HVV.out.2.1 hRV;have htt:=zT9 (X:=R) (n:=nb) (by omega) hRB
      obtain⟨i1,e1⟩:∃ i1:Nat,(j:Int)+(nb:Int) - 1=(i1:Int):=⟨j+nb - 1,by omega⟩
      obtain⟨i2,e2⟩:∃ i2:Nat,(j:Int)+(nb:Int) - 2=(i2:Int):=⟨j+nb - 2,by omega⟩
      obtain⟨k1,f1⟩:∃ k1:Nat,(nb:Int) - 1=(k1:Int):=⟨nb - 1,by omega⟩
      obtain⟨k2,f2⟩:∃ k2:Nat,(nb:Int) - 2=(k2:Int):=⟨nb - 2,by omega⟩
      have hcells:∀ wi,Two g h w8 wi (na+1) (M+1) (dg (Y % (V*B^(j+1)))) (fun t=>if j+1≤t then dg (Y / V) t else 0)→wi.cell? ⟨g,j+nb,none⟩=some (.int .u32 (dg R nb:Nat))∧wi.cell? ⟨g,i1,none⟩=some (.int .u32 (dg R k1:Nat))∧wi.cell? ⟨g,i2,none⟩=some (.int .u32 (dg R k2:Nat))∧wi.cell? ⟨bv,ov+k1,none⟩=some (.int .u32 (dg V k1:Nat))∧wi.cell? ⟨bv,ov+k2,none⟩=some (.int .u32 (dg V k2:Nat)):=fun wi hTw=>by
       have c1:=hTw.cellU (i:=j+nb) (by omega)
       have c2:=hTw.cellU (i:=j+k1) (by omega)
       have c3:=hTw.cellU (i:=j+k2) (by omega)
       rw[zX8,←hR] at c1 c2 c3;rw[show i1=j+k1 by omega,show i2=j+k2 by omega]
       exact⟨c1,c2,c3,hTw.old (p:=⟨bv,ov+k1,none⟩) hbg hbh ((HW8.out.1.cell (World.block_lt_of_cell? _ _ (HCV.out k1 (by omega)))).trans (HCV.out k1 (by omega))),hTw.old (p:=⟨bv,ov+k2,none⟩) hbg hbh ((HW8.out.1.cell (World.block_lt_of_cell? _ _ (HCV.out k2 (by omega)))).trans (HCV.out k2 (by omega)))⟩
      have gs2:Gs R V (dg V k1) (dg V k2) (R / B^k1) (dg R k2) nb:=by
       have:=gs
       rw[show nb - 1=k1 by omega,show nb - 2=k2 by omega] at this
       exact this
      rw[show nb - 1=k1 by omega] at htt
      clear gs;generalize hv1:dg V k1=v1 at *;generalize hv2:dg V k2=v2 at *;generalize ha:dg R nb=ra at *;generalize hb':dg R k1=rb at *;generalize hr3:dg R k2=r3 at *;have hraB:ra<B:=ha ▸ qZ4 _ _;have hrbB:rb<B:=hb' ▸ qZ4 _ _;generalize ht:R / B^k1=t at *;have htw:bits BinOp.or IntKind.u64 (IntKind.u64.wrap (IntKind.u64.wrap (ra:Int)*4294967296)) (IntKind.u64.wrap (rb:Int))=(t:Int):=by
       rw[←htt,Nat.add_comm];exact qJ6 hrbB hraB
      have GS:Hid (Gs R V v1 v2 t r3 nb):=gs2;have HTw:Hid (Two g h w8 wr (na+1) (M+1) (dg (Y % (V*B^(j+1)))) (fun t=>if j+1≤t then dg (Y / V) t else 0)):=hTw;have HR:Hid (R=Y / B^j % (V*B)∧R<B^(nb+1)):=⟨hR,hRB⟩;have hv1w:=qZ6 gs2.v1B;have hv2w:=qZ6 gs2.v2B;have hr3w:=qZ6 gs2.r3B;have hv1z:((v1:Int)==0)=false:=by have:=gs2.v1p;simp;omega
      have hv1n:(v1:Int)≠0:=by have:=gs2.v1p;omega
      have hq1:IntKind.u64.wrap ((t:Int) / (v1:Int))=((t / v1:Nat):Int):=by
       have h1:=gs2.tB;have h2:t / v1≤t:=xW0 _ _;rw[show(t:Int) / (v1:Int)=((t / v1:Nat):Int)from rfl,xW7];have h3:B*B=18446744073709551616:=by unfold B;rfl
       generalize t / v1=q at *;omega
      have hj1:((j+1:Nat):Int) - 1=(j:Int):=by omega
      have HCL:Hid (∀ wi,Two g h w8 wi (na+1) (M+1) (dg (Y % (V*B^(j+1)))) (fun t=>if j+1≤t then dg (Y / V) t else 0)→wi.cell? ⟨g,j+nb,none⟩=some (.int .u32 (ra:Nat))∧wi.cell? ⟨g,i1,none⟩=some (.int .u32 (rb:Nat))∧wi.cell? ⟨g,i2,none⟩=some (.int .u32 (r3:Nat))∧wi.cell? ⟨bv,ov+k1,none⟩=some (.int .u32 (v1:Nat))∧wi.cell? ⟨bv,ov+k2,none⟩=some (.int .u32 (v2:Nat))):=hcells;obtain⟨c1,c2,c3,d1,d2⟩:=hcells wr hTw;clear hTw hR hRV hRB gs2 htt hv1 hv2 ha hb' hr3 hraB hrbB ht hV0 hcells
      go_wp2
      go_quiet (fail)
      have HTq:Hid (Two g h w8 (wr.drewN nq) (na+1) (M+1) (dg (Y % (V*B^(j+1)))) (fun t=>if j+1≤t then dg (Y / V) t else 0)):=HTw.out.drewN nq;obtain⟨wq,hwq⟩:∃ wq,wq=wr.drewN nq:=⟨_,rfl⟩;rw[←hwq] at HTq ⊢;clear hwq c1 c2 c3 d1 d2 HTw;obtain⟨c1,c2,c3,d1,d2⟩:=HCL.out wq HTq.out
      go_upto_block 4 with fail
      go_cut [16,17] from 121 to 156 (fun d r wx=>∃ D:Nat,d=.int .u64 (D:Nat)∧Hid (R / V≤D∧D≤R / V+1∧D<B)∧Hid (Two g h w8 wx (na+1) (M+1) (dg (Y % (V*B^(j+1)))) (fun t=>if j+1≤t then dg (Y / V) t else 0)))
      case first =>
       clear c1 c2 c3 d1 d2
       go_wp2_with fail
       go_loopw [16,17] (fun d r wi=>∃ D r':Nat,d=.int .u64 (D:Nat)∧r=.int .u64 (r':Nat)∧r'<B∧Hid (Kn R V v1 t D r')∧Hid (Two g h w8 wi (na+1) (M+1) (dg (Y % (V*B^(j+1)))) (fun t=>if j+1≤t then dg (Y / V) t else 0))) (fun d _ _=>(intOf d).toNat)
       case atStart=>exact⟨t / v1,t % v1,by first|rfl|rw[hq1],rfl,Nat.lt_trans (xW4 _ (by have:=GS.out.v1p;omega)) GS.out.v1B,GS.out.start,HTq.out⟩
       case round =>
        obtain⟨D,r,rfl,rfl,hrB,HK,HTi⟩:=hrel;obtain⟨wi,rfl⟩:∃ wi:World,wi=wr:=⟨_,rfl⟩;obtain⟨c1,c2,c3,d1,d2⟩:=HCL.out wi HTi.out;have hDl:D≤B+1:=HK.out.le;have hr1:(r:Int)<4294967296:=by unfold B at hrB;omega
        by_cases hdB:B≤D
        ·have hdi:(4294967296:Int)≤(D:Int):=by unfold B at hdB;omega
         have hls:=GS.out.less HK.out (.inl hdB);have HL:Hid (Kn R V v1 t (D - 1) (r+v1)∧1≤D):=hls;have hbr:=fun hc=>GS.out.brk HK.out hrB hc;have HBR:Hid (B≤r+v1→D - 1<B):=hbr;have hD1:(1:Int)≤(D:Int):=by omega
         have hDu:(D:Int)≤4294967297:=by unfold B at hDl;omega
         have hv1u:(v1:Int)<4294967296:=by have:=GS.out.v1B;unfold B at this;omega
         clear hls hbr
         go_wp2
         go_quiet (fail)
         have HTj:Hid (Two g h w8 (wi.drewN nq) (na+1) (M+1) (dg (Y % (V*B^(j+1)))) (fun t=>if j+1≤t then dg (Y / V) t else 0)):=HTi.out.drewN nq;obtain⟨wj,hwj⟩:∃ wj,wj=wi.drewN nq:=⟨_,rfl⟩;rw[←hwj] at HTj ⊢;clear hwj c1 c2 c3 d1 d2 HTi;obtain⟨c1,c2,c3,d1,d2⟩:=HCL.out wj HTj.out;by_cases hbk:B≤r+v1
         ·have hbk1:(4294967296:Int)≤(r:Int)+(v1:Int):=by unfold B at hbk;omega
          go_wp2
          go_meet
          exact⟨D - 1,zB7 HL.out.2,zI7 (GS.out.done HL.out.1 (HBR.out hbk) (.inr hbk)) (HBR.out hbk),HTj.out⟩
         ·have hbk1:¬ (4294967296:Int)≤(r:Int)+(v1:Int):=by unfold B at hbk;omega
          go_wp2;exact⟨⟨D - 1,r+v1,zB7 HL.out.2,rfl,by omega,HL.out.1,HTj.out⟩,by simp[intOf];omega⟩
        ·have hdi:¬ (4294967296:Int)≤(D:Int):=by unfold B at hdB;omega
         have hv2B:=GS.out.v2B;have hr3B:=GS.out.r3B;have hk2n:(k2:Int)<(nb:Int):=by omega
         have hi2n:(i2:Int)<(na:Int)+1:=by omega
         have hk2m:k2<nb:=by omega
         have hjnw:IntKind.i64.wrap ((j:Int)+(nb:Int))=(j:Int)+(nb:Int):=by rw[xW6];omega
         have hk2w:IntKind.i64.wrap (k2:Int)=(k2:Int):=by rw[xW6];omega
         have hi2w:IntKind.i64.wrap (i2:Int)=(i2:Int):=by rw[xW6];omega
         have hi2m:i2<na+1:=by omega
         obtain⟨P,hP⟩:∃ P:Nat,P=D*v2:=⟨_,rfl⟩;obtain⟨Q1,hQ1⟩:∃ Q1:Nat,Q1=r*B:=⟨_,rfl⟩;obtain⟨Q2,hQ2⟩:∃ Q2:Nat,Q2=r*B+r3:=⟨_,rfl⟩;have hm1:IntKind.u64.wrap ((D:Int)*(v2:Int))=(P:Int):=by
          have:D*v2<B*B:=Nat.mul_lt_mul'' (by omega) hv2B
          have hBB:B*B=18446744073709551616:=by unfold B;rfl
          rw[←xC8,xW7,hP];generalize D*v2=m at *;omega
         have hm2:IntKind.u64.wrap ((r:Int)*4294967296)=(Q1:Int):=by
          rw[hQ1,xW7];unfold B at *; omega
         have hm3:IntKind.u64.wrap ((Q1:Int)+(r3:Int))=(Q2:Int):=by
          rw[hQ2,hQ1,xW7];unfold B at *; omega
         by_cases hgt:Q2<P
         ·have hgi:(Q2:Int)<(P:Int):=by omega
          have hls:=GS.out.less HK.out (.inr (by rw[←hQ2,←hP];exact hgt))
          have HL:Hid (Kn R V v1 t (D - 1) (r+v1)∧1≤D):=hls;have hbr:=fun hc=>GS.out.brk HK.out hrB hc;have HBR:Hid (B≤r+v1→D - 1<B):=hbr;have hD1:(1:Int)≤(D:Int):=by omega
          have hDu:(D:Int)≤4294967297:=by unfold B at hDl;omega
          have hv1u:(v1:Int)<4294967296:=by have:=GS.out.v1B;unfold B at this;omega
          clear hls hbr hP hQ1 hQ2
          go_wp2
          go_quiet (fail)
          have HTj:Hid (Two g h w8 (wi.drewN nq) (na+1) (M+1) (dg (Y % (V*B^(j+1)))) (fun t=>if j+1≤t then dg (Y / V) t else 0)):=HTi.out.drewN nq;obtain⟨wj,hwj⟩:∃ wj,wj=wi.drewN nq:=⟨_,rfl⟩;rw[←hwj] at HTj ⊢;clear hwj c1 c2 c3 d1 d2 HTi;obtain⟨c1,c2,c3,d1,d2⟩:=HCL.out wj HTj.out;by_cases hbk:B≤r+v1
          ·have hbk1:(4294967296:Int)≤(r:Int)+(v1:Int):=by unfold B at hbk;omega
           go_wp2
           go_meet
           exact⟨D - 1,zB7 HL.out.2,zI7 (GS.out.done HL.out.1 (HBR.out hbk) (.inr hbk)) (HBR.out hbk),HTj.out⟩
          ·have hbk1:¬ (4294967296:Int)≤(r:Int)+(v1:Int):=by unfold B at hbk;omega
           go_wp2;exact⟨⟨D - 1,r+v1,zB7 HL.out.2,rfl,by omega,HL.out.1,HTj.out⟩,by simp[intOf];omega⟩
         ·have hgi:¬ (Q2:Int)<(P:Int):=by omega
          have hdn:=GS.out.done HK.out (by omega) (.inl (by rw[←hQ2,←hP];omega))
          have HDN:Hid (R / V≤D∧D≤R / V+1∧D<B):=⟨hdn.1,hdn.2,by omega⟩
          clear hdn hP hQ1 hQ2;have hd1:decide ((4294967296:Int)≤(D:Int))=false:=xL3 (by omega)
          go_wp2
          go_quiet (fail)
          have HTj:Hid (Two g h w8 (wi.drewN nq) (na+1) (M+1) (dg (Y % (V*B^(j+1)))) (fun t=>if j+1≤t then dg (Y / V) t else 0)):=HTi.out.drewN nq;obtain⟨wj,hwj⟩:∃ wj,wj=wi.drewN nq:=⟨_,rfl⟩;rw[←hwj] at HTj ⊢;clear hwj c1 c2 c3 d1 d2 HTi hm1 hm2 hm3 hk2w hi2w hjnw;clear e1 e2 f1 f2 hv1w hv2w hr3w htw hq1 hk2n hi2n hk2m hi2m hv1z hv1n hDl hr1 hgt hdB hrB hv2B hr3B HK GS HCL HTq;try simp only[hd1]
          go_wp2_with fail
          go_meet
          exact⟨D,rfl,HDN.out,HTj.out⟩
      case rest =>
       obtain⟨D,rfl,HD,HTx⟩:=hcut;obtain⟨wx,rfl⟩:∃ wx:World,wx=wc:=⟨_,rfl⟩;clear c1 c2 c3 d1 d2 HCL GS hv1w hv2w hr3w hv1z hv1n hq1 htw HTq e1 e2 f1 f2;have HN:Hid (V<B^nb∧0<V):=⟨by have:=qY V;rw[HVV.out.1] at this;exact this,xW1 fun e=>by have:=HVV.out.1;rw[e,qQ5] at this;omega⟩
       go_wp2_with fail
       go_loopw [18,19,20] (fun b c i wi=>∃ s:Nat,s≤nb∧b=.int .u64 (subb R (V*D) s:Nat)∧c=.int .u64 (mulc V D s:Nat)∧i=.int .i64 (s:Int)∧Two g h w8 wi (na+1) (M+1) (put j s (wsub R (V*D) (nb+1)) (dg (Y % (V*B^(j+1))))) (fun t=>if j+1≤t then dg (Y / V) t else 0)) (fun _ _ i _=>nb - (intOf i).toNat)
       case atStart=>exact⟨0,xW5 _,by rw[qM4];rfl,by rw[qP2];rfl,rfl,HTx.out.congr (fun s _=>(qR5 ..).symm) (fun _ _=>rfl)⟩
       case round =>
        obtain⟨s,hs,rfl,rfl,rfl,hM⟩:=hrel;obtain⟨wi,rfl⟩:∃ wi:World,wi=wr:=⟨_,rfl⟩;have HM:Hid (Two g h w8 wi (na+1) (M+1) (put j s (wsub R (V*D) (nb+1)) (dg (Y % (V*B^(j+1))))) (fun t=>if j+1≤t then dg (Y / V) t else 0)):=hM;have c1:=hM.cellU (i:=j+s) (by omega)
        rw[qR6 (by omega),zX8,←HR.out.1] at c1
        have c2:=hM.frozenU (j+s);by_cases hsn:s<nb
        ·have d1:=hM.old (p:=⟨bv,ov+s,none⟩) hbg hbh ((HW8.out.1.cell (World.block_lt_of_cell? _ _ (HCV.out s hsn))).trans (HCV.out s hsn));have hsi:(s:Int)<(nb:Int):=by omega
         obtain⟨P,W,c',yy,b',sd,p1,p2,p3,p4,p5,p6,p7,q1,q2,q3⟩:=yI (R:=R) (V:=V) (D:=D) (s:=s) (n:=nb) HD.out.2.2 (by omega)
         have hw1:=qZ6 (qZ4 V s);have hw2:=qZ6 (qZ4 R s);rw[Nat.add_comm j s] at c1 c2;have HQ:Hid (c'=mulc V D (s+1)∧b'=subb R (V*D) (s+1)∧sd=dg (wsub R (V*D) (nb+1)) s):=⟨q1,q2,q3⟩;generalize dg V s=vs at *;generalize dg R s=us at *;generalize mulc V D s=mc at *;generalize subb R (V*D) s=sb at *;clear hM q1 q2 q3
         go_wp2;exact⟨⟨s+1,by omega,by rw[HQ.out.2.1],by rw[HQ.out.1],rfl,by rw[Nat.add_comm s j];exact HM.out.putU hgh (by rw[HQ.out.2.2])⟩,by simp[intOf];omega⟩
        ·obtain rfl:s=nb:=by omega
         have hsi:¬ (s:Int)<(s:Int):=by omega
         obtain⟨W,sd,p5,p6,p7,q3⟩:=xF4 (R:=R) (V:=V) (D:=D) (n:=s) HD.out.2.2 HN.out.1 HR.out.2;have hw2:=qZ6 (qZ4 R s);obtain⟨wk,hwk⟩:∃ wk,wk=wi.setCell ⟨g,j+s,none⟩ (.int .u32 (sd:Nat)):=⟨_,rfl⟩;have HK2:Hid (Two g h w8 wk (na+1) (M+1) (put j (s+1) (wsub R (V*D) (s+1)) (dg (Y % (V*B^(j+1))))) (fun t=>if j+1≤t then dg (Y / V) t else 0)):=by rw[hwk];exact HM.out.putU hgh (by rw[q3])
         by_cases hneg:R<V*D
         ·rw[xL4 hneg] at p7;generalize dg R s=us at *;generalize mulc V D s=mc at *;generalize subb R (V*D) s=sb at *;have hmj:(j:Int)<(M:Int)+1:=by omega
          clear hM q3;have hD0:D≠0:=fun h=>by rw[h,Nat.mul_zero] at hneg;omega
          have hD1:(1:Int)≤(D:Int):=by omega
          have hDu:(D:Int)<4294967296:=by have:=HD.out.2.2;unfold B at this;omega
          have hDm:((D:Int) - 1) % 4294967296=(D:Int) - 1:=by omega
          go_upto_region 36 with fail;rw[←hwk];clear hwk c1 c2 p5 p6 p7 hw2 HM HTx;obtain⟨z,hz⟩:∃ z,z=wsub R (V*D) (s+1):=⟨_,rfl⟩;rw[←hz] at HK2;have HZ:Hid (z=wsub R (V*D) (s+1)∧R<V*D):=⟨hz,hneg⟩;clear hz hneg
          go_wp2_with fail
          go_loopw [24,25] (fun c i wi=>∃ q:Nat,q≤s∧c=.int .u64 (addc z V q:Nat)∧i=.int .i64 (q:Int)∧Two g h w8 wi (na+1) (M+1) (put j q (z+V) (put j (s+1) z (dg (Y % (V*B^(j+1)))))) (fun t=>if j+1≤t then dg (Y / V) t else 0)) (fun _ i _=>s - (intOf i).toNat)
          case atStart=>exact⟨0,xW5 _,by rw[qF5];rfl,rfl,HK2.out.congr (fun s _=>(qR5 ..).symm) (fun _ _=>rfl)⟩
          case round =>
           obtain⟨q,hq,rfl,rfl,hM⟩:=hrel;obtain⟨wi,rfl⟩:∃ wi:World,wi=wr:=⟨_,rfl⟩;have HM:Hid (Two g h w8 wi (na+1) (M+1) (put j q (z+V) (put j (s+1) z (dg (Y % (V*B^(j+1)))))) (fun t=>if j+1≤t then dg (Y / V) t else 0)):=hM;have c1:=hM.cellU (i:=j+q) (by omega)
           rw[qR6 (by omega),xG6 (by omega)] at c1
           have c2:=hM.frozenU (j+q);by_cases hqs:q<s
           ·have d1:=hM.old (p:=⟨bv,ov+q,none⟩) hbg hbh ((HW8.out.1.cell (World.block_lt_of_cell? _ _ (HCV.out q hqs))).trans (HCV.out q hqs));have hsi:(q:Int)<(s:Int):=by omega
            obtain⟨T,c',sd2,p1,p2,p3,q1,q2⟩:=xZ7 z V q;have hw1:=qZ6 (qZ4 V q);have hw2:=qZ6 (qZ4 z q);rw[Nat.add_comm j q] at c1 c2;have HQ:Hid (c'=addc z V (q+1)∧sd2=dg (z+V) q):=⟨q1,q2⟩;generalize dg V q=vs at *;generalize dg z q=us at *;generalize addc z V q=mc at *;have hjq:(q:Int)+(j:Int)<(na:Int)+1:=by omega
            clear hM q1 q2
            go_wp2
            go_quiet (fail)
            have HMq:Hid (Two g h w8 (wi.drewN nq) (na+1) (M+1) (put j q (z+V) (put j (s+1) z (dg (Y % (V*B^(j+1)))))) (fun t=>if j+1≤t then dg (Y / V) t else 0)):=HM.out.drewN nq;have c1':(wi.drewN nq).cell? ⟨g,q+j,none⟩=some (.int .u32 (us:Nat)):=c1;have c2':(wi.drewN nq).frozen? ⟨g,q+j,none⟩=false:=c2;generalize wi.drewN nq=wj at *
            go_wp2;exact⟨⟨q+1,by omega,by rw[HQ.out.1],rfl,by rw[Nat.add_comm q j];exact HMq.out.putU hgh (by rw[HQ.out.2])⟩,by simp[intOf];omega⟩
           ·obtain rfl:q=s:=by omega
            have hsi:¬ (q:Int)<(q:Int):=by omega
            obtain⟨sd2,p1,q2⟩:=xR7 (z:=z) HN.out.1;have HQ:Hid (sd2=dg (z+V) q):=q2;have hqc:=hM.frozenQ j;have hqd:=hM.cellQ (i:=j) (by omega)
            generalize dg z q=us at *;generalize addc z V q=mc at *;clear hM q2
            go_wp2;exact yZ8 HM.out hgh HQ.out HZ.out.1 HZ.out.2 HD.out HN.out HR.out (by omega)
         ·rw[xL3 hneg] at p7;have hfl:=xN1 HR.out.2 hneg HD.out.1 HN.out.2;have HF:Hid (D=R / V∧wsub R (V*D) (s+1)=R % V):=hfl;have hqc:=HK2.out.frozenQ j;have hqd:=HK2.out.cellQ (i:=j) (by omega)
          have hDm:(D:Int) % 4294967296=(D:Int):=by have:=HD.out.2.2;unfold B at this;omega
          generalize dg R s=us at *;generalize mulc V D s=mc at *;generalize subb R (V*D) s=sb at *;have hmj:(j:Int)<(M:Int)+1:=by omega
          clear hM q3 hfl
          go_upto_region 45 with fail;rw[←hwk];clear hwk
          go_wp2;exact yZ7 HK2.out hgh HF.out HN.out HR.out (by omega)
     ·obtain rfl:jj=0:=by omega
      have hTF:Two g h w8 wr (na+1) (M+1) (dg (Y % V)) (dg (Y / V)):=hTw.congr (fun i _=>by rw[xC7,xE1]) (fun i _=>if_pos (xW5 _))
      have hV0:0<V:=xW1 fun e=>by have:=HVV.out.1;rw[e,qQ5] at this;omega
      have hAu:At wr (some ⟨g,0,none⟩) (na+1) (Y % V):=⟨g,0,fun _=>rfl,fun i hi=>by rw[Nat.zero_add];exact hTF.cellU hi⟩
      have hAq:At wr (some ⟨h,0,none⟩) (M+1) (Y / V):=⟨h,0,fun _=>rfl,fun i hi=>by rw[Nat.zero_add];exact hTF.cellQ hi⟩
      have hLu:dlen (Y % V)≤na+1:=by
       have:dlen (Y % V)≤dlen V:=qZ3 (xE8 (xW4 _ hV0))
       rw[HVV.out.1] at this;omega
      have hLq:dlen (Y / V)≤M+1:=(qQ9 _ _).2 ((xE6 hV0).2 (by rw[xC4];exact HVV.out.2.2))
      have k40:=r40 (some ⟨g,0,none⟩) (na+1) cu (Y % V) wr hLu hcu (by omega) hAu
      have kd:=xU5 (v:=.slice (some ⟨g,0,none⟩) (dlen (Y % V)) cu) (⟨_,_,rfl,by omega,qU5 hAu hLu⟩:Ir wr _ (Y % V)) S (by omega) (by omega)
      have HE:Hid (At wr (some ⟨h,0,none⟩) (M+1) (Y / V)∧dlen (Y / V)≤M+1∧Bw w wr):=⟨hAq,hLq,HB3.out.trans ((HW8.out.1.trans (hTF.below (by have:=HW8.out.2.1;exact this) (by have:=HW8.out.2.2;exact this))).mono HB3.out.size)⟩
      clear hTw hTF hAu hAq hLu hLq hV0
      go_wp2_with fail;refine k40.mono ?_;rintro r w9 ⟨rfl,rfl⟩;clear k40
      go_wp2_with fail;refine kd.mono ?_;rintro r w9 ⟨ar,cr,rfl,hAr,hcr,hBr⟩;have HR9:Hid (At w9 ar (dlen (Y % V / 2^S)) (Y % V / 2^S)∧dlen (Y % V / 2^S)≤cr):=⟨hAr,hcr⟩;have HQ9:Hid (At w9 (some ⟨h,0,none⟩) (M+1) (Y / V)∧Bw w w9):=⟨HE.out.1.later hBr,HE.out.2.2.trans (hBr.mono HE.out.2.2.size)⟩;have k40:=r40 (some ⟨h,0,none⟩) (M+1) (M+1) (Y / V) w9 HE.out.2.1 (xL0 _) (by omega) HQ9.out.1
      clear kd hAr hcr hBr
      go_wp2_with fail;refine k40.mono ?_;rintro r w10 ⟨rfl,rfl⟩;clear k40
      go_wp2;refine xW9 (xE3 rfl _ _ _) rfl ?_;exact⟨_,_,rfl,⟨_,_,rfl,HE.out.2.1,qU5 HQ9.out.1 HE.out.2.1⟩,⟨_,_,rfl,HR9.out.2,HR9.out.1⟩,HQ9.out.2⟩
end Go.Proofs.YtbanebginnakhaaGreatDoor
namespace Go.Proofs.YtbanebginnakhaaGreatDoor
theorem zX1 {x n:Nat}:bl x≤n↔x<2^n:=qJ8 x n
theorem zR5 (n:Nat):B^n=2^(32*n):=by rw[show B=2^32 by rfl,←Nat.pow_mul]
theorem zH0 {y n p S:Nat} (hy:y≠0) (hn:dlen y=n) (hp:p=(bl y - 1) % 32) (hS:S+p+1=32):bl y+S=32*n∧1≤bl y∧2^(32*n - 1)≤y*2^S∧y*2^S<2^(32*n)∧S<32:=by
 have ht:=qE hy;have hd:=zN hy;have hlt:=qZ4 y (dlen y - 1);have hn1:1≤n:=by
  rcases Nat.eq_zero_or_pos n with h|h
  ·rw[h] at hn;exact absurd (qQ7.1 hn) hy
  ·exact h
 rw[hn] at ht hd hlt;have h32:bl (dg y (n - 1))≤32:=zX1.2 (by rw[←show B=2^32 by rfl];exact hlt)
 have h1:1≤bl (dg y (n - 1)):=by
  rcases Nat.eq_zero_or_pos (bl (dg y (n - 1)))with h|h
  ·have:=zX1.1 (Nat.le_of_eq h)
   rw[xC7] at this;omega
  ·exact h
 have e:bl y+S=32*n:=by omega
 have hle:=qP6 hy;have hlb:=qV0 y;refine⟨e,by omega,?_,?_,by omega⟩
 ·have:2^(bl y - 1)*2^S≤y*2^S:=xL7 _ hle
  rw[←xC3,show bl y - 1+S=32*n - 1 by omega] at this
  exact this
 ·have:y*2^S<2^bl y*2^S:=xE4 hlb (xL5 _)
  rw[←xC3,e] at this;exact this
theorem zO3 {x y na nb M p S:Nat} (hy:y≠0) (hx:x≠0) (hnb:dlen y=nb) (hna:dlen x=na) (hab:nb+M=na) (hn2:2≤nb) (hp:p=(bl y - 1) % 32) (hS:S+p+1=32) :
  dlen (y*2^S)=nb∧B≤2*dg (y*2^S) (nb - 1)∧x*2^S<y*2^S*B^(M+1)∧0<dlen (x*2^S)∧dlen (x*2^S)≤na+1:=by
 obtain⟨e,h1,hlo,hhi,hS32⟩:=zH0 hy hnb hp hS;have hx2:=qY x;rw[hna] at hx2;have hlen:dlen (y*2^S)=nb:=by
  have a:dlen (y*2^S)≤nb:=(qQ9 _ _).2 (by rw[zR5];exact hhi)
  have b:¬ dlen (y*2^S)≤nb - 1:=fun h=>by
   have:=(qQ9 _ _).1 h
   rw[zR5] at this;have h2:2^(32*(nb - 1))≤2^(32*nb - 1):=xL6 (by omega) (by omega)
   omega
  omega
 have h2S:2^S≤2^31:=xL6 (by omega) (by omega)
 have hY:x*2^S<B^na*2^31:=xL8 (xE4 hx2 (xL5 _)) (xW2 _ h2S);refine⟨hlen,?_,?_,?_,?_⟩
 ·have h3:dg (y*2^S) (nb - 1)=y*2^S / B^(nb - 1):=by
   unfold dg;rw[xW3];refine(xE6 (Nat.pow_pos qV4)).2 ?_
   rw[xC4 B,←xC5,show(nb - 1).succ=nb by omega,zR5]
   exact hhi
  have h4:2^31≤y*2^S / B^(nb - 1):=by
   refine(Nat.le_div_iff_mul_le (Nat.pow_pos qV4)).2 ?_
   rw[zR5,←xC3,show 31+32*(nb - 1)=32*nb - 1 by omega]
   exact hlo
  rw[h3];have:B=2*2^31:=by rfl
  omega
 ·refine xL8 hY ?_;have:2^(32*nb - 1)*B^(M+1)≤y*2^S*B^(M+1):=xL7 _ hlo
  refine xW (Nat.le_of_eq ?_) this;rw[zR5,zR5,←xC3,←xC3];congr 1;omega
 ·refine xW1 fun h=>?_;have:=qQ7.1 h
  rcases Nat.mul_eq_zero.1 this with h|h
  ·exact hx h
  ·have:=xL5 S;omega
 ·refine(qQ9 _ _).2 (xL8 hY ?_)
  rw[xC5];exact xW2 _ (by unfold B;omega)
theorem zC3 {x y S:Nat}:x*2^S / (y*2^S)=x / y:=Nat.mul_div_mul_right _ _ (xL5 S)
theorem zW9 {x y S:Nat}:x*2^S % (y*2^S) / 2^S=x % y:=by
 rw[Nat.mul_mod_mul_right,Nat.mul_div_cancel _ (xL5 S)]
end Go.Proofs.YtbanebginnakhaaGreatDoor
namespace Go.Proofs.YtbanebginnakhaaGreatDoor
open Go.RowKit
theorem qL8 (w:World) (u:Value):(w.alloc (.cells #[u] 50)).cell? ⟨w.heap.size,0+0,none⟩=some u:=by
 have h:=xW8 w (.cells #[u] 50);unfold World.cell?;simp only[h,Nat.add_zero];rfl
theorem xU8 (ba oa na ca:Nat) (vb:Value) (x y:Nat) (w:World) (hna0:0<na) (hna:na≤100000000) (hx:dlen x=na) (hlt:x<y) (hca:∀ i,i<na→w.cell? ⟨ba,oa+i,none⟩=some (.int .u32 (dg x i:Nat)))
  (kO:Calls Tryz.prog 140 #[.slice (some ⟨ba,oa,none⟩) na ca,vb] w fun e w'=>e=.returned (.int .i64 (cmpI x y))∧∃ d,w'=w.drewN d) :
  Calls Tryz.prog 186 #[.slice (some ⟨ba,oa,none⟩) na ca,vb] w fun e w'=>∃ q r,e=.returned (.tuple #[q,r])∧Ir w' q 0∧Ir w' r x∧Bw w w':=by
 have hc:cmpI x y = -1:=by unfold cmpI;rw[if_pos (by omega)]
 rw[hc] at kO;have HX:Hid (dlen x=na):=hx;have HCA:Hid (∀ i,i<na→w.cell? ⟨ba,oa+i,none⟩=some (.int .u32 (dg x i:Nat))):=hca;clear hx hc hlt hca
 go_enter Tryz.func186,Tryz.ntmps186
 go_wp2_with fail;refine kO.mono ?_;rintro r w1 ⟨rfl,d,hd⟩;have HB1:Hid (Bw w w1):=(hd ▸ ⟨rfl,rfl,rfl,xL0 _,fun _ _=>rfl⟩:Bw w w1);have HN:Hid (∀ j u,(cells x na)[j]?=some u→(w1.alloc (Obj.cells (madeCells #[Value.int IntKind.u32 0] 0) 50)).cell? ((⟨ba,oa,none⟩:Addr).add j)=some u):=qC4 HCA.out (HB1.out.alloc HB1.out.size _);have hOM:(w1.alloc (Obj.cells (madeCells #[Value.int IntKind.u32 0] 0) 50)).ownsRow w1.heap.size 50 1 (.slice (some ⟨w1.heap.size,0,none⟩) 0 0) 0 []:=World.ownsRow_made w1 _ 0 (xL0 _) (by unfold maxLen;omega) (by simp[madeCells])
 have hmk:=run_make_row' (P:=Tryz.prog) 82 50 (.int .u32 0) 4 Tryz.underlying82 Tryz.info50 rfl .i64 .i64 0 (by omega) (by omega) w1
 rw[show((0:Nat):Int)=0 from rfl] at hmk;obtain⟨i0,hi0,hz0,hz1,hz2⟩:=info_parts Tryz.info50;clear kO hd
 go_wp2_with (at_builtin;refine wpList_append_own _ rfl _ _ 82 rfl w1.heap.size 50 i0 (.int .u32 0) 1 4 Tryz.underlying82 hi0 hz0 hz1 hz2 rfl (by decide) _ 0 [] rfl hOM ⟨ba,oa,none⟩ na ca (cells x na) rfl (by rw[qZ9,xE1]) HN.out zX (by unfold maxLen;omega) (by omega) (by simp) ?_)
 intro v' w4 hown hgrow _;obtain⟨ao',cap',rfl,hc',hA⟩:=qJ hown;have HR:Hid (At w4 ao' na x∧na≤cap'∧Bw w w4):=⟨hA,hc',HB1.out.trans ((Below.grown ((xL1 w1.heap.size w1).alloc (xL0 _) _) hgrow (by simp) (fun k hk=>by simp[Value.ownBlock] at hk;omega)).mono HB1.out.size)⟩
 have k40:=r40 ao' na cap' x w4 (by rw[HX.out];exact xL0 _) hc' (by omega) hA
 clear hown hgrow hA HN hOM hmk hi0 hz0 hz1 hz2
 go_wp2_with fail;refine k40.mono ?_;rintro r w5 ⟨rfl,rfl⟩;clear k40
 go_wp2;refine xW9 (xE3 rfl _ _ _) rfl ?_;exact⟨_,_,rfl,Ir.nil _ _ _,⟨ao',cap',rfl,by rw[HX.out];exact HR.out.2.1,by rw[HX.out];exact HR.out.1⟩,HR.out.2.2⟩
theorem xU7 (va:Value) (bb ob cb:Nat) (x y:Nat) (w:World) (hge:¬ x<y) (hyB:y<B) (hcb:w.cell? ⟨bb,ob,none⟩=some (.int .u32 (y:Nat)))
  (kO:Calls Tryz.prog 140 #[va,.slice (some ⟨bb,ob,none⟩) 1 cb] w fun e w'=>e=.returned (.int .i64 (cmpI x y))∧∃ d,w'=w.drewN d)
  (kS:∀ d,Calls Tryz.prog 219 #[va,.int .u32 (y:Nat)] (w.drewN d) fun e w'=>∃ v,e=.returned (.tuple #[v,.int .u32 (x % y:Nat)])∧Own w' (w.drewN d).heap.size v (x / y)∧Below (w.drewN d).heap.size (w.drewN d) w') (hy0:0<y) :
  Calls Tryz.prog 186 #[va,.slice (some ⟨bb,ob,none⟩) 1 cb] w fun e w'=>∃ q r,e=.returned (.tuple #[q,r])∧Ir w' q (x / y)∧Ir w' r (x % y)∧Bw w w':=by
 have hc:¬ cmpI x y<0:=by unfold cmpI;rw[if_neg (by omega)];split <;> omega
 have HR:Hid (x % y<B):=(Nat.lt_trans (xW4 _ hy0) hyB:x % y<B);generalize cmpI (x:Int) (y:Int)=c at *
 go_enter Tryz.func186,Tryz.ntmps186
 go_wp2_with fail;refine kO.mono ?_;rintro r w1 ⟨rfl,d,rfl⟩;have k:=kS d;have hcb':(w.drewN d).cell? ⟨bb,ob,none⟩=some (.int .u32 (y:Nat)):=hcb;have HBd:Hid (Below w.heap.size w (w.drewN d)):=(⟨rfl,rfl,rfl,xL0 _,fun _ _=>rfl⟩:Below w.heap.size w (w.drewN d));generalize w.drewN d=w1 at *;clear kO kS hcb
 go_wp2_with fail;refine k.mono ?_;rintro r w2 ⟨v,rfl,hO,hB2⟩;have HB2:Hid (Bw w w2∧Own w2 w1.heap.size v (x / y)):=⟨HBd.out.trans (hB2.mono HBd.out.size),hO⟩;obtain⟨q,hq⟩:∃ q,q=x % y:=⟨_,rfl⟩;rw[←hq] at HR ⊢;have HQ:Hid (q=x % y):=hq;obtain⟨W,hW⟩:∃ W,W=w2.alloc (.cells #[.int .u32 (q:Nat)] 50):=⟨_,rfl⟩;have hBW:Bw w2 W:=by rw[hW];exact(xL1 _ _).alloc (xL0 _) _
 have hA:At W (some ⟨w2.heap.size,0,none⟩) 1 q:=⟨w2.heap.size,0,fun _=>rfl,fun i hi=>by
  obtain rfl:i=0:=by omega
  rw[hW,qS3,xW3 HR.out];exact qL8 w2 _⟩
 have hL:dlen q≤1:=(qQ9 1 q).2 (by rw[Nat.pow_one];exact HR.out)
 have k40:=r40 (some ⟨w2.heap.size,0,none⟩) 1 1 q W hL (xL0 _) (by omega) hA
 have HE:Hid (At W (some ⟨w2.heap.size,0,none⟩) (dlen q) q∧dlen q≤1∧Bw w2 W):=⟨qU5 hA hL,hL,hBW⟩;clear k hO hB2 hA hL hBW hq
 go_wp2_with fail;rw[←hW];clear hW;refine k40.mono ?_;rintro r w5 ⟨rfl,rfl⟩;clear k40
 go_wp2;refine xW9 (xE3 rfl _ _ _) rfl ?_;have hB:=HB2.out.1.trans (HE.out.2.2.mono HB2.out.1.size);exact⟨_,_,rfl,(HB2.out.2.is.ir).later HE.out.2.2,by rw[←HQ.out];exact⟨_,_,rfl,HE.out.2.1,HE.out.1⟩,hB⟩
theorem zC {u v:Value} {x y:Nat} {w:World} (hu:Ir w u x) (hv:Ir w v y) (hx0:x≠0) (hy0:y≠0) (hx:dlen x≤100000000) (hy:dlen y≤100000000) :
  Calls Tryz.prog 186 #[u,v] w fun e w'=>∃ q r,e=.returned (.tuple #[q,r])∧Ir w' q (x / y)∧Ir w' r (x % y)∧Bw w w':=by
 have kO:=rord hu hv (by omega) (by omega)
 have hxp:0<dlen x:=xW1 fun e=>hx0 (qQ7.1 e);have hyp:0<dlen y:=xW1 fun e=>hy0 (qQ7.1 e);obtain⟨ao,ca,rfl,a1,ba,oa,a3,a4⟩:=id hu;obtain⟨bo,cb,rfl,b1,bb,ob,b3,b4⟩:=id hv;obtain rfl:=a3 hxp;obtain rfl:=b3 hyp;by_cases hlt:x<y
 ·rw[Nat.div_eq_of_lt hlt,xW3 hlt];exact xU8 ba oa (dlen x) ca _ x y w hxp hx rfl hlt a4 kO
 ·by_cases h1:dlen y=1
  ·have hyB:y<B:=by have:=qY y;rw[h1,Nat.pow_one] at this;exact this
   have c0:=b4 0 hyp;rw[qS3,xW3 hyB,Nat.add_zero] at c0;rw[h1] at kO ⊢;exact xU7 _ bb ob cb x y w hlt hyB c0 kO (fun d=>yC1 (hu.later ⟨rfl,rfl,rfl,xL0 _,fun _ _=>rfl⟩) hx0 (by omega) (by omega) hyB) (by omega)
  ·obtain⟨M,hM⟩:∃ M,dlen y+M=dlen x:=⟨dlen x - dlen y,by have:=qZ3 (show y≤x by omega);omega⟩
   obtain⟨p,hp⟩:∃ p,p=(bl y - 1) % 32:=⟨_,rfl⟩;obtain⟨S,hS⟩:∃ S,S+p+1=32:=⟨31 - p,by omega⟩
   obtain⟨f1,f2,f3,f4,f5⟩:=zO3 hy0 hx0 rfl rfl hM (by omega) hp hS
   obtain⟨-,hb1,-,-,hS32⟩:=zH0 hy0 rfl hp hS;have hbl:=qY2 y;have hc:¬ cmpI x y<0:=by unfold cmpI;rw[if_neg (by omega)];split <;> omega
   have hpm:((bl y:Int) - 1).tmod 32=(p:Int):=by
    rw[Int.tmod_eq_emod_of_nonneg (by omega)];omega
   have:=xU6 (some ⟨ba,oa,none⟩) (some ⟨bb,ob,none⟩) (dlen x) (dlen y) ca cb x y p S (bl y) (x*2^S) (y*2^S) M w hx hy (by omega) hM hS32 (by omega) hpm (by omega) hb1 f4 f5 f1 f2 f3
    (fun W hW=>(rord (hu.later hW) (hv.later hW) (by omega) (by omega)).mono fun r w' ⟨e1,d,e2⟩=>⟨e1,by rw[e2];exact⟨rfl,rfl,rfl,xL0 _,fun _ _=>rfl⟩⟩) hc
    (fun W hW=>by
     obtain⟨_,_,e,_,b',o',h5,h6⟩:=hv.later hW;simp only[Value.slice.injEq] at e;obtain⟨e,-,-⟩:=e;subst e;have:=h5 hyp
     simp only[Option.some.injEq,Addr.mk.injEq] at this;obtain⟨rfl,rfl,-⟩:=this;exact r42 bb ob (dlen y) cb y W hyp (by omega) rfl h6)
    (fun W hW=>rup (hv.later hW) S (by omega) (by omega)) (fun W hW=>rup (hu.later hW) S (by omega) (by omega))
   rw[zC3,zW9] at this;exact this
theorem cmp_eq {x y:Nat}:(cmpI (x:Int) (y:Int)==0)=decide (x=y):=by
 unfold cmpI;by_cases h:x=y
 ·subst h;simp
 ·rw[xL3 h];by_cases h2:(x:Int)<(y:Int)
  ·rw[if_pos h2];rfl
  ·rw[if_neg h2,if_pos (by omega)];rfl
theorem yU3 (na nb:Bool) (ua va:Option Addr) (un uc vn vc:Nat) (ea eb:Int) (nc:Bool) (xa:Option Addr) (xn xc:Nat) (ec:Int) (s:Bool) (z:Nat) (e:Int) (w:World) (kM:∀ W,Calls Tryz.prog 95 #[.agg #[.bool nb,.slice va vn vc,.int .i64 eb]] W fun r w'=>r=.returned (.agg #[.bool nc,.slice xa xn xc,.int .i64 ec])∧Bw W w')
  (kA:∀ W,Bw w W→Calls Tryz.prog 92 #[.agg #[.bool na,.slice ua un uc,.int .i64 ea],.agg #[.bool nc,.slice xa xn xc,.int .i64 ec]] W fun r w'=>∃ a,r=.returned a∧NC w' W.heap.size a s z e∧Bw W w') :
  Calls Tryz.prog 187 #[.agg #[.bool na,.slice ua un uc,.int .i64 ea],.agg #[.bool nb,.slice va vn vc,.int .i64 eb]] w fun r w'=>∃ a,r=.returned a∧NC w' w.heap.size a s z e∧Bw w w':=by
 have HKM:Hid _:=kM;have HKA:Hid _:=kA;clear kM kA;obtain⟨W,hW⟩:∃ W,W=((w.alloc (.cells #[.bool na,.slice ua un uc,.int .i64 ea] 132)).alloc (.cells #[.bool nb,.slice va vn vc,.int .i64 eb] 132)).alloc (.cells #[.bool false,.slice none 0 0,.int .i64 0] 132):=⟨_,rfl⟩;obtain⟨hA,hBb,hC,hsz,hBW⟩:=qK0 _ _ _ hW;have HH:Hid ((W.heap[w.heap.size]?=some (.cells #[.bool na,.slice ua un uc,.int .i64 ea] 132 (0,0))∧W.heap[w.heap.size+1]?=some (.cells #[.bool nb,.slice va vn vc,.int .i64 eb] 132 (0,0))∧W.heap[w.heap.size+1+1]?=some (.cells #[.bool false,.slice none 0 0,.int .i64 0] 132 (0,0)))∧W.heap.size=w.heap.size+1+1+1∧Bw w W):=⟨⟨hA,hBb,hC⟩,hsz,hBW⟩;obtain⟨⟨a0,a1,a2⟩,-⟩:=qQ0 hA;obtain⟨⟨b0,b1,b2⟩,-⟩:=qQ0 hBb;clear hA hBb hC hsz hBW;have kM:∀ w4,Bw W w4→Calls Tryz.prog 95 #[.agg #[.bool nb,.slice va vn vc,.int .i64 eb]] w4 fun r w'=>r=.returned (.agg #[.bool nc,.slice xa xn xc,.int .i64 ec])∧Bw W w':=fun w4 hb=>(HKM.out w4).mono fun r w' ⟨e1,o2⟩=>⟨e1,hb.trans (o2.mono hb.size)⟩;have kA:∀ w5,Bw W w5→Calls Tryz.prog 92 #[.agg #[.bool na,.slice ua un uc,.int .i64 ea],.agg #[.bool nc,.slice xa xn xc,.int .i64 ec]] w5 fun r w'=>∃ s' ao n cap ex,r=.returned (.agg #[.bool s',.slice ao n cap,.int .i64 ex])∧Hid (NC w' W.heap.size (.agg #[.bool s',.slice ao n cap,.int .i64 ex]) s z e)∧Bw W w'∧Hid (w'.heap[w.heap.size+1+1]?=some (.cells #[.bool false,.slice none 0 0,.int .i64 0] 132 (0,0))) ∧
   (w'.cell? ⟨w.heap.size+1+1,0,none⟩=some (.bool false)∧w'.cell? ⟨w.heap.size+1+1,1,none⟩=some (.slice none 0 0)∧w'.cell? ⟨w.heap.size+1+1,2,none⟩=some (.int .i64 0))∧(w'.frozen? ⟨w.heap.size+1+1,0,none⟩=false∧w'.frozen? ⟨w.heap.size+1+1,1,none⟩=false∧w'.frozen? ⟨w.heap.size+1+1,2,none⟩=false):=by
  intro w5 hb;refine(HKA.out w5 (HH.out.2.2.trans (hb.mono HH.out.2.2.size))).mono ?_
  rintro r w6 ⟨A,rfl,hN,hb6⟩;obtain⟨s',ao,n,cap,ex,rfl⟩:=hN.shape;have hb16:Bw W w6:=hb.trans (hb6.mono hb.size);have hblk:=qQ HH.out.1.2.2 hb16 (by have:=HH.out.2.1;omega)
  obtain⟨f1,f2⟩:=qQ0 hblk;exact⟨s',ao,n,cap,ex,rfl,hN.mono hb.size,hb16,hblk,f1,f2⟩
 have HK:Hid (∀ w',Bw W w'→((w'.cell? ⟨w.heap.size,0,none⟩=some (.bool na)∧w'.cell? ⟨w.heap.size,1,none⟩=some (.slice ua un uc)∧w'.cell? ⟨w.heap.size,2,none⟩=some (.int .i64 ea))∧(w'.cell? ⟨w.heap.size+1,0,none⟩=some (.bool nb)∧w'.cell? ⟨w.heap.size+1,1,none⟩=some (.slice va vn vc)∧w'.cell? ⟨w.heap.size+1,2,none⟩=some (.int .i64 eb)))):=fun w' hb=>⟨(qQ0 (qQ HH.out.1.1 hb (by have:=HH.out.2.1;omega))).1,(qQ0 (qQ HH.out.1.2.1 hb (by have:=HH.out.2.1;omega))).1⟩
 have HK2:Hid (∀ w',Below (w.heap.size+1+1) W w'→((w'.cell? ⟨w.heap.size,0,none⟩=some (.bool na)∧w'.cell? ⟨w.heap.size,1,none⟩=some (.slice ua un uc)∧w'.cell? ⟨w.heap.size,2,none⟩=some (.int .i64 ea))∧(w'.cell? ⟨w.heap.size+1,0,none⟩=some (.bool nb)∧w'.cell? ⟨w.heap.size+1,1,none⟩=some (.slice va vn vc)∧w'.cell? ⟨w.heap.size+1,2,none⟩=some (.int .i64 eb)))):=fun w' hb=>⟨(qQ0 (qQ HH.out.1.1 hb (by omega))).1,(qQ0 (qQ HH.out.1.2.1 hb (by omega))).1⟩
 have HS2:Hid (w.heap.size+1+1≤W.heap.size):=(by have:=HH.out.2.1;omega:w.heap.size+1+1≤W.heap.size)
 have hBR:Bw W W.drew:=(xL1 _ _).drew
 go_enter Tryz.func187,Tryz.ntmps187
 go_upto_region 1 with fail;rw[←hW];clear hW
 go_region_held3 (fun w'=>((w'.cell? ⟨w.heap.size,0,none⟩=some (.bool na)∧w'.cell? ⟨w.heap.size,1,none⟩=some (.slice ua un uc)∧w'.cell? ⟨w.heap.size,2,none⟩=some (.int .i64 ea))∧(w'.cell? ⟨w.heap.size+1,0,none⟩=some (.bool nb)∧w'.cell? ⟨w.heap.size+1,1,none⟩=some (.slice va vn vc)∧w'.cell? ⟨w.heap.size+1,2,none⟩=some (.int .i64 eb)))) (first|(with_reducible assumption)|exact⟨⟨a0,a1,a2⟩,b0,b1,b2⟩|(refine HK.out _ ?_;with_reducible assumption)|(refine HK2.out _ (qQ3 (Below.mono hb6 HS2.out) (xL0 _) _ _ _))|go_keep)
  (first|(go_at_call 95;refine(kM _ (by first|(with_reducible assumption)|exact hBR)).mono ?_;rintro r w5 ⟨rfl,hb5⟩)|(go_at_call 92;refine(kA _ (by first|(with_reducible assumption)|exact hBR)).mono ?_;rintro r w6 ⟨s6,ao6,n6,cap6,ex6,rfl,hN6,hb6,hblk6,⟨x1,x2,x3⟩,x4,x5,x6⟩))
 all_goals (have HF:Hid (Bw W w6):=hb6;clear hb5 hb6 kM kA x1 x2 x3 x4 x5 x6 a0 a1 a2 b0 b1 b2 HK HK2 hBR;go_wp2;refine xW9 (xE2 rfl _ _ (w.heap.size+1+1) 132 #[.bool s6,.slice ao6 n6 cap6,.int .i64 ex6] (0,0) _ rfl (qX1 _ _ _ hblk6.out) Tryz.underlying132 rfl Tryz.info132) rfl ?_;exact⟨_,rfl,(hN6.out.store (by have:=HH.out.2.1;omega) _ _ _).mono HH.out.2.2.size,qQ3 (HH.out.2.2.trans (HF.out.mono HH.out.2.2.size)) (by omega) _ _ _⟩)
theorem zZ9 {s:Bool} {x:Nat} {e:Int} (h:x % 2=1):cn s x e=(s,x,e):=by
 unfold cn;rw[if_neg (by omega),qO0 h,xC7,Nat.div_one]
 simp
theorem rone (place:Int) (w:World) (hp1 : -4000000≤place) (hp2:place≤4000000) :
  Calls Tryz.prog 188 #[.int .i64 place] w fun r w'=>∃ g,r=.returned (.agg #[.bool false,.slice (some ⟨g,0,none⟩) 1 1,.int .i64 (-place)])∧w.heap.size≤g∧At w' (some ⟨g,0,none⟩) 1 1∧Bw w w':=by
 go_enter Tryz.func188,Tryz.ntmps188
 go_wp2;obtain⟨W,hW⟩:∃ W,W=(w.alloc (.cells #[.bool false,.slice (some ⟨w.heap.size+1,0,none⟩) 1 1,.int .i64 (-place)] 132)).alloc (.cells #[.int .u32 1] 50):=⟨_,rfl⟩;have hA:W.heap[w.heap.size]?=some (.cells #[.bool false,.slice (some ⟨w.heap.size+1,0,none⟩) 1 1,.int .i64 (-place)] 132 (0,0)):=by
  rw[hW,Below.heap_alloc _ _ _ (by simp)];exact xW8 _ _
 have hC:W.cell? ⟨w.heap.size+1,0,none⟩=some (.int .u32 1):=by
  have h:=qL8 (w.alloc (.cells #[.bool false,.slice (some ⟨w.heap.size+1,0,none⟩) 1 1,.int .i64 (-place)] 132)) (.int .u32 1);rw[←hW,Nat.add_zero] at h;have hs:(w.alloc (.cells #[.bool false,.slice (some ⟨w.heap.size+1,0,none⟩) 1 1,.int .i64 (-place)] 132)).heap.size=w.heap.size+1:=by simp
  rw[hs] at h;exact h
 have hBW:Bw w W:=by rw[hW];exact((xL1 _ _).alloc (xL0 _) _).alloc (by simp) _
 rw[←hW];refine xW9 (xE2 rfl _ _ w.heap.size 132 #[.bool false,.slice (some ⟨w.heap.size+1,0,none⟩) 1 1,.int .i64 (-place)] (0,0) _ rfl hA Tryz.underlying132 rfl Tryz.info132) rfl ?_;refine⟨w.heap.size+1,rfl,by omega,⟨w.heap.size+1,0,fun _=>rfl,fun i hi=>?_⟩,hBW⟩
 obtain rfl:i=0:=by omega
 rw[qS3,show 1 % B=1 by rfl]
 exact hC
theorem zW8 {ao va:Option Addr} {cap vc q:Nat} {place:Int} {w:World} (ho:Arg w ao (dlen (cn true q (-place)).2.1) cap (cn true q (-place)).2.1) (h1:At w va 1 1) (hvc:1≤vc) (hp1 : -1000000≤place) (hp2:place≤1000000) (hq:dlen q≤30000) :
  Calls Tryz.prog 187 #[.agg #[.bool (cn true q (-place)).1,.slice ao (dlen (cn true q (-place)).2.1) cap,.int .i64 (cn true q (-place)).2.2],.agg #[.bool false,.slice va 1 vc,.int .i64 (-place)]] w fun r w'=>∃ a,r=.returned a∧NC w' w.heap.size a true (q+1) (-place)∧Bw w w':=by
 have d1:dlen 1=1:=by rw[qK6 (by omega),show 1 / B=0 by rfl,qQ5]
 have hA1:Arg w va (dlen 1) vc 1:=⟨fun h=>by rw[d1] at h;omega,by rw[d1];exact h1,by rw[d1];exact hvc,by rw[d1];omega⟩
 refine yU3 _ false ao va _ cap 1 vc _ (-place) true va 1 vc (-place) true (q+1) (-place) w (fun W=>zH4 false va 1 vc (-place) W (by omega) rfl) (fun W hW=>?_)
 have htz:tz q≤32*30000:=by
  by_cases h0:q=0
  ·rw[h0];exact xW (Nat.le_of_eq (by rw[tz];rfl)) (xW5 _)
  ·have h2:=(qX0 q q (xL0 _) h0).1;have h3:2^tz q≤q:=by
    have h4:0<q / 2^tz q:=by
     rcases Nat.eq_zero_or_pos (q / 2^tz q)with h|h
     ·rw[h,Nat.mul_zero] at h2;omega
     ·exact h
    exact xW (Nat.le_mul_of_pos_right _ h4) (Nat.le_of_eq h2)
   have h5:=qV0 q;have h6:=qY2 q;have h7:tz q<bl q:=(Nat.pow_lt_pow_iff_right (by omega)).1 (xL9 h3 h5)
   omega
 have hcn:cn (cn true q (-place)).1 (cn true q (-place)).2.1 (cn true q (-place)).2.2=(cn true q (-place)):=by
  by_cases h0:q=0
  ·unfold cn;rw[if_pos h0,if_pos rfl]
  ·have h2:=(qX0 q q (xL0 _) h0).2;have:cn true q (-place)=(true,q / 2^tz q,-place+tz q):=by unfold cn;rw[if_neg h0]
   rw[this];exact zZ9 h2
 have he : -2000000≤(cn true q (-place)).2.2∧(cn true q (-place)).2.2≤2000000:=by
  by_cases h0:q=0
  ·unfold cn;rw[if_pos h0];exact⟨by decide,by decide⟩
  ·unfold cn;rw[if_neg h0];exact⟨by simp only;omega,by simp only;omega⟩
 have hl:dlen (cn true q (-place)).2.1≤300000:=by
  by_cases h0:q=0
  ·unfold cn;rw[if_pos h0,qQ5];omega
  ·unfold cn;rw[if_neg h0];exact xW (qZ3 (xW0 _ _)) (by omega)
 have:=yD6 (na:=(cn true q (-place)).1) (nb:=true) (ea:=(cn true q (-place)).2.2) (eb := -place) (ho.later hW) (hA1.later hW) hcn (zZ9 rfl) he.1 he.2 (by omega) (by omega) hl (by rw[d1];omega) (by unfold cn;by_cases h0:q=0 <;> simp[h0])
 have hs:sumN (cn true q (-place)).1 (cn true q (-place)).2.1 (cn true q (-place)).2.2 true 1 (-place)=(true,q+1,-place):=by
  by_cases h0:q=0
  ·subst h0;unfold cn;rw[if_pos rfl];unfold sumN;rw[if_pos rfl]
  ·have h2:=qX0 q q (xL0 _) h0;have e1:cn true q (-place)=(true,q / 2^tz q,-place+tz q):=by unfold cn;rw[if_neg h0]
   have h3:q / 2^tz q≠0:=by omega
   rw[e1];unfold sumN;simp only
   rw[if_neg h3,if_neg (by omega),if_pos trivial,show min (-place+(tz q:Int)) (-place) = -place by omega,show(-place+(tz q:Int) - -place).toNat=tz q by omega,show(-place - -place).toNat=0 by omega,xC7,xE1,xC4,h2.1]
 rw[hs,d1] at this;exact this
end Go.Proofs.YtbanebginnakhaaGreatDoor
