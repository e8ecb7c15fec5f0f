/- Own work: contracts of the program's functions, part 15: DCW DCZ DCT DCU DD1 DD2 DD4 DD5. -/
import Derived.Test.YtfkaogdmlcdceaaGreatDoorA14
import Derived.Test.YtfkaogdmlcdceaaGreatDoorA7
import Derived.Test.YtfkaogdmlcdceaaGreatDoorA13
import Derived.Test.YtfkaogdmlcdceaaGreatDoorA11
import Derived.Test.YtfkaogdmlcdceaaGreatDoorA6
import Derived.Test.YtfkaogdmlcdceaaGreatDoorA12

set_option maxHeartbeats 16000000
set_option maxRecDepth 200000
set_option linter.unusedVariables false
set_option linter.unusedSimpArgs false
namespace Go.Proofs.YtfkaogdmlcdceaaGreatDoor
open Go Go.RowKit Go.Fl64
attribute [local go_sem] iV Nu
theorem yF9 (N:Nat) (d0 d1:Int) (t:Bool×Nat×Int) (w:World) (hN:N<18446744073709551616) (qZ:(N:Int) % 4294967296=d0) (qQ:(N:Int) / 4294967296=d1)
  (kK:∀ W g,Bw w W→W.heap[g]?=some (.cells #[.int .u32 d0,.int .u32 d1] 96 (0,0))→Ca 138 (Nu false (some ⟨g,0,none⟩) 2 2 0) W fun r w'=>yF5 W t r w') :
  Ca 75 #[.int .u64 N] w fun r w'=>OutA w t r w':=by
 obtain⟨L,J⟩:=eE (w.alloc (.cells (Nu false none 0 0 0) 50));have I:Hid (Bw w L∧Hn L w.heap.size false none 0 0 0 50):=⟨by rw[J];exact bR.alloc lR _,by rw[J];exact kB7 _ _⟩
 obtain⟨W,hW⟩:=eE (L.alloc (.cells #[.int .u32 d0,.int .u32 d1] 96));have u:Bw L W:=by rw[hW];exact bR.alloc lR _
 have Y:Hid _:=And.intro (I.out.1.trans (u.mono I.out.1.size)) (qQ0 I.out.2 u (qQ7 I.out.2));have k1:=kK W L.heap.size Y.out.1 (by rw[hW];exact kB7 _ _)
 clear kK u
 go_enter Tryz.func75,Tryz.ntmps75
 go_upto_region 1 with fail;rw[←J];clear J
 go_wp2_with fail;rw[←hW];clear hW I;refine k1.mono ?_;rintro r w2 ⟨s1,F,n1,H,e1,rfl,hp,hb⟩;clear k1 qZ qQ hN;obtain⟨V,hV⟩:=eE (w2.alloc (.cells (Nu s1 F n1 H e1) 50));have u:Bw w2 V:=by rw[hV];exact bR.alloc lR _
 have n6:Hn V w2.heap.size s1 F n1 H e1 50:=by rw[hV];exact kB7 _ _
 go_upto_region 2 with fail;rw[←hV];clear hV;have D:=hb.trans (u.mono hb.size);have qX:=kF6 (qQ7 Y.out.2) hb.size;have C:=hp.later u;clear hp hb u;generalize w2.heap.size=qY at *;have T:Hid (Hn V w.heap.size false none 0 0 0 50∧PBx V qY s1 F n1 H e1 t∧Bw w V):=⟨qQ0 Y.out.2 D (qQ7 Y.out.2),⟨n6,C⟩,Y.out.1.trans (D.mono Y.out.1.size)⟩;clear Y n6 C D;obtain⟨⟨c0,c1,c2⟩,-⟩:=qQ3 T.out.2.1.1;obtain⟨⟨z0,z1,z2⟩,y0,y1,y2⟩:=qQ3 T.out.1
 go_wp2;refine kB8 (kM2 rfl _ _ w.heap.size 50 (Nu s1 F n1 H e1) (0,0) _ rfl (zF7 _ _ _ T.out.1) Tryz.underlying50 rfl Tryz.info50) rfl ?_;exact⟨_,_,_,_,_,rfl,T.out.2.1.2.set3 T.out.1 _ _ _,qL9 T.out.2.2 lR _ _ _⟩
theorem yB0 {N:Nat} {w:World} (T:Tab32 w) (C:N<18446744073709551616):Ca 75 #[.int .u64 N] w fun r w'=>OutA w (un (N:Int) 0) r w':=by
 refine yF9 N _ _ (un (N:Int) 0) w C rfl rfl ?_;intro W g D H;have u:∀ i,i<2→W.cell? ⟨g,0+i,none⟩=some (.int .u32 (dg N i:Nat)):=by
  intro i hi;rcases(show i=0∨i=1 by omega)with rfl|rfl
  ·rw[show(dg N 0:Nat)=N % 4294967296 by unfold dg B;simp]
   simp[World.cell?,H]
  ·rw[show(dg N 1:Nat)=N / 4294967296 by unfold dg B;rw[Nat.pow_one,kB2 ω]]
   simp[World.cell?,H]
 have L:okR false N 0=true:=by
  have:=zS9 (Z:=(N:Int)) (p:=0) (b:=64) (by rw[kN1];omega) ω ω
  rwa [kN1,show decide ((N:Int)<0)=false from kF1 ω] at this
 have Y:Ca 138 (Nu false (some ⟨g,0,none⟩) 2 2 0) W fun r w'=>Mk25 W w' false N 0 r∧Bw W w':=by
  by_cases h:N=0
  ·subst h;exact c15_0 false (some ⟨g,0,none⟩) 2 2 0 W ⟨g,0,fun _=>rfl,u⟩ ω ω
  ·exact c15_1 false g 0 2 2 N 0 W u ((qZ3 2 N).2 (by unfold B;omega)) ω ω ω h ω (T.later D)
 refine Y.mono ?_;rintro r w' ⟨⟨-,A,rfl,V⟩|⟨h,-⟩,F⟩
 ·have J:=V.pn;have I:cn false N 0=un (N:Int) 0:=by unfold un;rw[kN1,show decide ((N:Int)<0)=false from kF1 ω];rfl
  rw[I] at J;obtain⟨s,ao,n,cap,e,rfl⟩:=J.shape;exact⟨s,ao,n,cap,e,rfl,J,F⟩
 ·rw[L] at h;cases h
theorem yV5 (b:Nat) (L:List UInt8) (k:Nat):∀ m,dvP b L (k+m)=dvP b L k*b^m+dvP b (L.drop k) m
 | 0=>by simp[dvP]
 | m+1=>by
  show dvP b L (k+m)*b+dgB (bL L (k+m))=dvP b L k*b^(m+1)+(dvP b (L.drop k) m*b+dgB (bL (L.drop k) m))
  have e:bL (L.drop k) m=bL L (k+m):=by unfold bL;rw[List.getElem?_drop]
  rw[yV5 b L k m,e,kN5,Nat.add_mul,kN6,kH4]
theorem zT3 (b:Nat) (L:List UInt8) (n:Nat):∀ m,m≤n→dvP b (L.take n) m=dvP b L m
 | 0,_=>rfl
 | m+1,h=>by
  show dvP b (L.take n) m*b+dgB (bL (L.take n) m)=dvP b L m*b+dgB (bL L m)
  have e:bL (L.take n) m=bL L m:=by unfold bL;rw[List.getElem?_take_of_lt ω]
  rw[zT3 b L n m ω,e]
theorem zM5 (L:List UInt8):(⟨L.toArray⟩:ByteArray).toList.isEmpty=L.isEmpty:=by rw[Lib.toList_data]
theorem yW0 (B:Nat) (L:List UInt8) (h e:Int) (P Qn V:Nat→Bool×Nat×Int) (Rk:Nat→Nat→Bool×Nat×Int) (w:World) (zX:P 0=nilN) (hL:L.length≤5000)
  (k1:Hid (∀ W (F:List UInt8) k,F=(L.drop k).take (min 15 (L.length - k))→k<L.length→Ca 176 #[.string ⟨F.toArray⟩,iV (B:Int),iV 64] W (Rq W (.tuple #[.int .u64 ((dvP B F F.length:Nat):Int),.nilIface]))))
  (k2:Hid (∀ W n,Bw w W→n≤15→Ca 88 #[iV (B:Int),iV (n:Nat)] W fun r w'=>OutA W (Qn n) r w'))
  (k3:Hid (∀ W X Y k n,Bw w W→PN W X (P k)→PN W Y (Qn n)→k+n≤L.length→n≤15→Ca 94 #[X,Y] W fun r w'=>OutA W (Rk k n) r w'))
  (k4:Hid (∀ W (F:List UInt8) k,F=(L.drop k).take (min 15 (L.length - k))→k<L.length→Bw w W→Ca 75 #[.int .u64 ((dvP B F F.length:Nat):Int)] W fun r w'=>OutA W (V k) r w'))
  (k5:Hid (∀ W X Y k n,Bw w W→PN W X (Rk k n)→PN W Y (V k)→n=min 15 (L.length - k)→k<L.length→Ca 98 #[X,Y] W fun r w'=>OutA W (P (k+n)) r w')) :
  Ca 121 #[.agg #[iV (B:Int),.string ⟨L.toArray⟩,iV h,iV e]] w fun r w'=>OutA w (P L.length) r w':=by
 obtain⟨W,hW⟩:=eE ((w.alloc (.cells #[iV (B:Int),.string ⟨L.toArray⟩,iV h,iV e] 75)).alloc (.cells (Nu false none 0 0 0) 50));obtain⟨z1,z2,z3,z4⟩:=qG9 _ _ hW;obtain⟨W1,qF⟩:=eE (W.alloc (.cells (Nu false none 0 0 0) 50));have D:Bw W W1:=by rw[qF];exact bR.alloc lR _
 have n6:Hn W1 W.heap.size false none 0 0 0 50:=by rw[qF];exact kB7 _ _
 obtain⟨J,qG⟩:∃ g,g=W.heap.size:=⟨_,rfl⟩;rw[←qG] at n6;have H0:Hid (Hx W1 w.heap.size #[iV (B:Int),.string ⟨L.toArray⟩,iV h,iV e] 75∧PBx W1 J false none 0 0 0 (P 0)∧Bw w W1∧w.heap.size+1<J∧Hn W1 (w.heap.size+1) false none 0 0 0 50):=⟨qQ0 z1 D (qQ7 z1),⟨n6,by rw[zX];exact xJ9 _⟩,z4.trans (D.mono z4.size),by rw[qG];omega,qQ0 z2 D (qQ7 z2)⟩
 obtain⟨c0,c1,c2,c3⟩:=qH4 H0.out.1;clear z1 z2 z3 z4 D n6
 go_enter Tryz.func121,Tryz.ntmps121
 go_upto_region 1 with fail;rw[←hW];clear hW
 go_upto_region 2 with fail;rw[←qF,←qG];clear qF qG
 go_wp2;clear c0 c1 c2 c3
 go_loopg [4] L.length (fun m v wr=>∃ (k:Nat) (s3:Bool) (qV:Option Addr) (n3 qJ:Nat) (e3:Int),k+m=L.length∧v=.string ⟨(L.drop k).toArray⟩∧Hid (Hx wr w.heap.size #[iV (B:Int),.string ⟨L.toArray⟩,iV h,iV e] 75∧PBx wr J s3 qV n3 qJ e3 (P k)∧Bw w wr∧w.heap.size+1<J∧Hn wr (w.heap.size+1) false none 0 0 0 50))
 case atStart=>exact⟨0,false,none,0,0,0,ω,by rw[List.drop_zero],H0⟩
 case round =>
  obtain⟨k,s3,qV,n3,qJ,e3,hk,rfl,I⟩:=hrel;clear H0;obtain⟨R,hR⟩:∃ R:ByteArray,R=⟨(L.drop k).toArray⟩:=⟨_,rfl⟩;have qB:R.toList.isEmpty=(L.drop k).isEmpty:=by rw[hR];exact zM5 _
  have qX:R.size=L.length - k:=by rw[hR];show(L.drop k).length=_;rw[List.length_drop]
  rw[←hR];by_cases qU:k<L.length
  ·have qM:R.toList.isEmpty=false:=by rw[qB];cases hq:L.drop k with|nil=>rw[List.drop_eq_nil_iff] at hq;omega|cons a t=>rfl
   obtain⟨m,hm⟩:=eE (min 15 (L.length - k));obtain⟨F,hP⟩:∃ F:List UInt8,F=(L.drop k).take m:=⟨_,rfl⟩;have qN:F.length=m:=by rw[hP,List.length_take,List.length_drop];omega
   have qP:0<m:=ω;have qO:min (15:Int) ((R.size:Nat):Int)=(m:Int):=by rw[qX];omega
   have qA:R.extract 0 m=⟨F.toArray⟩:=by rw[hR,hP];exact qK0 _ _
   have qE:R.extract m R.size=⟨(L.drop (k+m)).toArray⟩:=by
    rw[qX,hR];have:=qJ3 (L.drop k) m
    rw[List.length_drop,List.drop_drop] at this;exact this
   have zY:=qN;have zQ:(m:Int)≤(R.size:Int):=by rw[qX];omega
   have HM:Hid (m=min 15 (L.length - k)∧F=(L.drop k).take m∧F.length=m∧k<L.length∧k+gk=L.length∧0<m∧k+m≤L.length∧m≤15∧F=(L.drop k).take (min 15 (L.length - k))):=⟨hm,hP,qN,qU,hk,qP,ω,ω,by rw[←hm];exact hP⟩
   obtain⟨c0,c1,c2,c3⟩:=qH4 I.out.1;have kk:=fun W=>k1.out W F k HM.out.2.2.2.2.2.2.2.2 qU;rw[qN] at kk;obtain⟨v,hv⟩:=eE (dvP B F m);have HV:Hid _:=hv;rw[←hv] at kk;clear qB qU hm hP qN qP hk hv hR;generalize zV:R.size=rz at *;clear qX
   go_wp2_with fail;refine(kk _).mono ?_
   rintro r w1 ⟨rfl,D⟩;have H1:Hid _:=aI5 (qQ0 I.out.1 D (qQ7 I.out.1)) (I.out.2.1.later D) (I.out.2.2.1.trans (D.mono I.out.2.2.1.size)) I.out.2.2.2.1 (qQ0 I.out.2.2.2.2 D (qQ7 I.out.2.2.2.2));clear kk D I c0 c1 c2 c3 qA qE qO zQ qM
   go_upto_region 7 with fail;obtain⟨m1,m2,qK,m3,m4⟩:=H1.out;refine qW3 qX2 10 [29,30,31,32,33,34,35,36,37,38] [[],[],[1],[],[3],[2,4],[0,5],[],[7],[6,8]] w1 _ [isV (.agg (Nu s3 qV n3 qJ e3)),isV (.pointer (some ⟨w.heap.size,0,none⟩)),isV (iV (B:Int)),isV (.string ⟨F.toArray⟩),isV (iV (m:Nat)),isP (Qn m),isP (Rk k m),isV (.int .u64 (v:Nat)),isP (V k),isP (P (k+m))] (by kernel_rfl) ⟨qQ2 _,qQ2 _,qQ2 _,qQ2 _,qQ2 _,qX4 _,qX4 _,qQ2 _,qX4 _,qX4 _,trivial⟩ ⟨rfl,δ,by show ∀ s ∈ [29,30,31,32,33,34,35,36,37,38],s<40;decide⟩ ?_ ?_
   ·intro j hj o ho act U hb qZ H;have zJ:=hj;have qH:=qK.trans (hb.mono qK.size);have qC:act.tmps[(1:Nat)]?=some (Value.pointer (some ⟨w.heap.size,0,none⟩)):=(qZ 1 δ).trans rfl;have qW:act.tmps[(3:Nat)]?=some (Value.pointer (some ⟨J,0,none⟩)):=(qZ 3 δ).trans rfl;have qL:act.tmps[(5:Nat)]?=some (Value.string ⟨F.toArray⟩):=(qZ 5 δ).trans rfl;have qT:act.tmps[(6:Nat)]?=some (Value.int .u64 (v:Nat)):=(qZ 6 δ).trans rfl;have d3:=(qK8 (qQ0 m2.1 hb (qQ7 m2.1))).1;have d1:=qH4 (qQ0 m1 hb (qQ7 m1));rcases(by omega:j=0∨j=1∨j=2∨j=3∨j=4∨j=5∨j=6∨j=7∨j=8∨j=9)with rfl|rfl|rfl|rfl|rfl|rfl|rfl|rfl|rfl|rfl
    ·obtain rfl:=kF0 ho;exact(qK6 (f:=0) rfl qW d3.1 d3.2.1 d3.2.2 ⟨_,rfl,rfl,kH9 _ _⟩)
    ·obtain rfl:=kF0 ho;exact(qZ6 (w':=U) (by simp[execOp,Act.eval,qC,go_sem]) ⟨_,rfl,rfl,kH9 _ _⟩)
    ·obtain rfl:=kF0 ho;have y1:act.tmps[(30:Nat)]?=_:=dV (H 1 (by simp[dL])) rfl
     exact(qZ6 (w':=U) (by simp[execOp,Act.eval,y1,go_sem,d1.1]) ⟨_,rfl,rfl,kH9 _ _⟩)
    ·obtain rfl:=kF0 ho;exact(qZ7 rfl qL ⟨_,rfl,rfl,kH9 _ _⟩)
    ·obtain rfl:=kF0 ho;have y3:act.tmps[(32:Nat)]?=_:=dV (H 3 (by simp[dL])) rfl
     exact(qZ6 (w':=U) (by simp[execOp,Act.eval,y3,go_sem,zY]) ⟨_,rfl,rfl,kH9 _ _⟩)
    ·obtain rfl:=kF0 ho;have y2:act.tmps[(31:Nat)]?=_:=dV (H 2 (by simp[dL])) rfl
     have y4:act.tmps[(33:Nat)]?=_:=dV (H 4 (by simp[dL])) rfl
     refine(qQ9 rfl (qZ4 Tryz.func88 (by kernel_rfl) (by kernel_rfl)) (map2 y2 y4) ?_)
     refine(k2.out U m qH HM.out.2.2.2.2.2.2.2.1).mono ?_
     rintro r w' ⟨_,_,_,_,_,rfl,hA,qQ⟩;exact⟨_,rfl,_,rfl,hA,qQ⟩
    ·obtain rfl:=kF0 ho;have y0:act.tmps[(29:Nat)]?=_:=dV (H 0 (by simp[dL])) rfl
     obtain⟨u5,y5,v5⟩:=H 5 (by simp[dL])
     have qR:=y5;refine(qQ9 rfl (qZ4 Tryz.func94 (by kernel_rfl) (by kernel_rfl)) (map2 y0 qR) ?_)
     refine(k3.out U _ _ k m qH (m2.2.later hb) v5 HM.out.2.2.2.2.2.2.1 HM.out.2.2.2.2.2.2.2.1).mono ?_
     rintro r w' ⟨_,_,_,_,_,rfl,hA,qQ⟩;exact⟨_,rfl,_,rfl,hA,qQ⟩
    ·obtain rfl:=kF0 ho;exact(qZ7 rfl qT ⟨_,rfl,rfl,kH9 _ _⟩)
    ·obtain rfl:=kF0 ho;have y7:act.tmps[(36:Nat)]?=_:=dV (H 7 (by simp[dL])) rfl
     refine(qQ9 rfl (qZ4 Tryz.func75 (by kernel_rfl) (by kernel_rfl)) (qN4 y7) ?_)
     have k9:=k4.out U F k HM.out.2.2.2.2.2.2.2.2 HM.out.2.2.2.1 qH;rw[HM.out.2.2.1,←HV.out] at k9;refine k9.mono ?_;rintro r w' ⟨_,_,_,_,_,rfl,hA,qQ⟩;exact⟨_,rfl,_,rfl,hA,qQ⟩
    ·obtain rfl:=kF0 ho;obtain⟨u6,y6,v6⟩:=H 6 (by simp[dL])
     have qS:=y6;obtain⟨u8,y8,v8⟩:=H 8 (by simp[dL])
     have qD:=y8;refine(qQ9 rfl (qZ4 Tryz.func98 (by kernel_rfl) (by kernel_rfl)) (map2 qS qD) ?_)
     refine(k5.out U _ _ k m qH v6 v8 HM.out.1 HM.out.2.2.2.1).mono ?_
     rintro r w' ⟨_,_,_,_,_,rfl,hA,qQ⟩;exact⟨_,rfl,_,rfl,hA,qQ⟩
   ·intro o ho u W5 qY hu;have qI:o.op=.store 50 (.tmp 3) (.tmp 38):=by rw[←kF0 ho];rfl
    have zZ:o.dst=none:=by rw[←kF0 ho];rfl
    clear ho;have q9:PN W5 (u 9) (P (k+m)):=hu 9 δ;obtain⟨s5,C,n5,T,e5,h5⟩:=q9.shape;rw[h5] at q9;have H5:Hid ((Hx W5 w.heap.size #[iV (B:Int),.string ⟨L.toArray⟩,iV h,iV e] 75∧PBx W5 J s3 qV n3 qJ e3 (P k)∧Bw w W5∧w.heap.size+1<J∧Hn W5 (w.heap.size+1) false none 0 0 0 50)∧PN W5 (.agg (Nu s5 C n5 T e5)) (P (k+m))):=⟨⟨qQ0 m1 qY (qQ7 m1),m2.later qY,qK.trans (qY.mono qK.size),m3,qQ0 m4 qY (qQ7 m4)⟩,q9⟩;clear hu qY m1 m2 m3 m4 qK H1 q9;simp only[putL,show List.range 10 = [0,1,2,3,4,5,6,7,8,9] from rfl,kG2,kG3,kG4,kG5,kH2,kH3,kH0,kG9,List.foldl_cons,List.foldl_nil,Nat.reduceLT,Nat.reduceMod,Nat.reduceDiv,Nat.reduceMul,Nat.reduceAdd,Nat.reduceEqDiff,reduceIte,kG8,Act.put,kU9,kG0,kG1];rw[h5];clear h5;refine yY1 qI (g:=J) (cs:=(Nu s5 C n5 T e5)) rfl rfl H5.out.1.2.1.1 (by kernel_rfl) rfl (one3 rfl rfl) ?_
    rw[zZ];simp only[Act.put];have H6:Hid ((W5.setRow J (Nu s5 C n5 T e5)).heap[w.heap.size]?=some (.cells #[iV (B:Int),.string ⟨L.toArray⟩,iV h,iV e] 75 (0,0))∧PBx (W5.setRow J (Nu s5 C n5 T e5)) J s5 C n5 T e5 (P (k+m))∧Below w.heap.size w (W5.setRow J (Nu s5 C n5 T e5))∧w.heap.size+1<J∧(W5.setRow J (Nu s5 C n5 T e5)).heap[w.heap.size+1]?=some (.cells (Nu false none 0 0 0) 50 (0,0))):=by
     obtain⟨⟨a1,a2,a3,a4,a5⟩,a6⟩:=H5.out;have zK:=qQ7 a2.1;exact⟨(setRow_other _ _ _ _ ω).trans a1,⟨setRow_heap _ _ _ _ _ _ a2.1,PN.row3 a6 a2.1 ⟨_,_,_,_,_,rfl⟩ _⟩,qN8 a3 ω _,a4,(setRow_other _ _ _ _ ω).trans a5⟩
    clear H5;generalize W5.setRow J (Nu s5 C n5 T e5)=W6 at *
    go_wp2_with fail
    go_roundg (gk - m)
    case measure=>have:=HM.out;omega
    case rel=>exact⟨k+m,s5,C,n5,T,e5,by have:=HM.out;omega,rfl,H6⟩
  ·obtain rfl:k=L.length:=ω;have qM:R.toList.isEmpty=true:=by rw[qB,List.drop_length];rfl
   obtain⟨⟨a0,a1,a2⟩,-⟩:=qQ3 I.out.2.1.1;obtain⟨⟨b0,b1,b2⟩,f0,f1,f2⟩:=qQ3 I.out.2.2.2.2;clear qB qX hR hk qU
   go_wp2;refine kB8 (kM2 rfl _ _ (w.heap.size+1) 50 (Nu s3 qV n3 qJ e3) (0,0) _ rfl (zF7 _ _ _ I.out.2.2.2.2) Tryz.underlying50 rfl Tryz.info50) rfl ?_;exact⟨_,_,_,_,_,rfl,I.out.2.1.2.set3 I.out.2.2.2.2 _ _ _,qL9 I.out.2.2.1 ω _ _ _⟩
def SpO (w:World) (S M:List UInt8) (PP:Int→Int→List UInt8→Int→Int→Bool→Prop) (r:Ending) (w':World):Prop:=∃ (v b':Int) (D:List UInt8) (h x:Int) (ok:Bool),r=.returned (.tuple #[.agg #[.int .i64 b',.string ⟨D.toArray⟩,.int .i64 h,.int .i64 x],.bool ok])∧IxA S M v∧PP v b' D h x ok∧Bw w w'
theorem xE1 {a b c d:Value} (V:a.oneCell'=true) (J:b.oneCell'=true) (Y:c.oneCell'=true) (u:d.oneCell'=true):(#[a,b,c,d]:Array Value).all (·.oneCell')=true:=by simp[V,J,Y,u]
theorem qV7 {w:World} {g:Nat} {a b c d:Value} {T:TypeId} (h:w.heap[g]?=some (.cells #[a,b,c,d] T (0,0))) :
  (w.cell? ⟨g,0,none⟩=some a∧w.cell? ⟨g,1,none⟩=some b∧w.cell? ⟨g,2,none⟩=some c∧w.cell? ⟨g,3,none⟩=some d)∧(w.frozen? ⟨g,0,none⟩=false∧w.frozen? ⟨g,1,none⟩=false∧w.frozen? ⟨g,2,none⟩=false∧w.frozen? ⟨g,3,none⟩=false):=by
 simp[World.cell?,World.frozen?,h]
theorem yA0 {w:World} {g:Nat} {a b c d:Value} {T:TypeId} (h:w.heap[g]?=some (.cells #[a,b,c,d] T (0,0))) (v:Value):(w.setCell ⟨g,0,none⟩ v).heap[g]?=some (.cells #[v,b,c,d] T (0,0)):=by
 simp[World.setCell,Array.getElem?_modify,h]
theorem yE9 {w:World} {g:Nat} {a b c d:Value} {T:TypeId} (h:w.heap[g]?=some (.cells #[a,b,c,d] T (0,0))) (v:Value):(w.setCell ⟨g,1,none⟩ v).heap[g]?=some (.cells #[a,v,c,d] T (0,0)):=by
 simp[World.setCell,Array.getElem?_modify,h]
theorem yE8 {w:World} {g:Nat} {a b c d:Value} {T:TypeId} (h:w.heap[g]?=some (.cells #[a,b,c,d] T (0,0))) (v:Value):(w.setCell ⟨g,2,none⟩ v).heap[g]?=some (.cells #[a,b,v,d] T (0,0)):=by
 simp[World.setCell,Array.getElem?_modify,h]
theorem yE7 {w:World} {g:Nat} {a b c d:Value} {T:TypeId} (h:w.heap[g]?=some (.cells #[a,b,c,d] T (0,0))) (v:Value):(w.setCell ⟨g,3,none⟩ v).heap[g]?=some (.cells #[a,b,c,v] T (0,0)):=by
 simp[World.setCell,Array.getElem?_modify,h]
theorem yM3 {w:World} {g:Nat} {a b c d:Value} {T:TypeId} (h:w.heap[g]?=some (.cells #[a,b,c,d] T (0,0))) (x y z u:Value):((((w.setCell ⟨g,0,none⟩ x).setCell ⟨g,1,none⟩ y).setCell ⟨g,2,none⟩ z).setCell ⟨g,3,none⟩ u).heap[g]?=some (.cells #[x,y,z,u] T (0,0)):=yE7 (yE8 (yE9 (yA0 h _) _) _) _
theorem yW6 (L S:List UInt8) (p1 p2 J:Bool) (b:Int) (c0 c1:UInt8) (PP:Int→Int→List UInt8→Int→Int→Bool→Prop) (xE:List UInt8→Int) (oE:List UInt8→Bool) (cA T:List UInt8→List UInt8) (dG:List UInt8→Bool) (w:World) (hL:L.length≤1048576)
  (qD:Hid (J=(p1||p2))) (hS:Hid (S=if J then L.drop 2 else L)) (hb:Hid (b=if J then 16 else 10)) (qW:Hid (c0=if J then 112 else 101)) (qL:Hid (c1=if J then 80 else 69)) (hp:Hid (J=true→2≤L.length))
  (k1:∀ W,Ca 116 #[.string ⟨L.toArray⟩,.string ⟨#[48,120]⟩] W fun r w'=>r=.returned (.bool p1)∧w'=W)
  (k2:∀ W,Ca 116 #[.string ⟨L.toArray⟩,.string ⟨#[48,88]⟩] W fun r w'=>r=.returned (.bool p2)∧w'=W)
  (k3:Hid (∀ W,Ca 117 #[.string ⟨S.toArray⟩,.string ⟨#[c0,c1]⟩] W fun r w'=>∃ v:Int,r=.returned (iV v)∧IxA S [c0,c1] v∧Bw W w'))
  (k4:Hid (∀ W i,i<S.length→Ca 118 #[.string ⟨(S.drop (i+1)).toArray⟩] W (Rq W (.tuple #[iV (xE (S.drop (i+1))),.bool (oE (S.drop (i+1)))]))))
  (k5:Hid (∀ W (D:List UInt8),D.length≤1048576→Ca 119 #[.string ⟨D.toArray⟩,.string ⟨#[46]⟩] W fun r w'=>∃ bb,r=.returned (.tuple #[.string ⟨(cA D).toArray⟩,.string ⟨(T D).toArray⟩,.bool bb])∧Bw W w')) (qY:Hid (∀ D,(cA D).length+(T D).length≤D.length))
  (k6:Hid (∀ W (D:List UInt8),D.length≤1048576→Ca 120 #[.string ⟨D.toArray⟩,iV b] W fun r w'=>r=.returned (.bool (dG D))∧w'=W))
  (qV:Hid (∀ i,i<S.length→PP (i:Int) b (cA (S.take i)++T (S.take i)) (T (S.take i)).length (xE (S.drop (i+1))) (oE (S.drop (i+1))&&dG (cA (S.take i)++T (S.take i)))))
  (qJ:Hid (J=true→PP (-1) 0 [] 0 0 false)) (qK:Hid (J=false→PP (-1) b (cA S++T S) (T S).length 0 (dG (cA S++T S)))) :
  Ca 55 #[.string ⟨L.toArray⟩] w fun r w'=>SpO w S [c0,c1] PP r w':=by
 obtain⟨W,hW⟩:=eE ((w.alloc (.cells #[iV 0,.string ⟨#[]⟩,iV 0,iV 0] 75)).alloc (.cells #[iV 10,.string ⟨#[]⟩,iV 0,iV 0] 75));obtain⟨z1,z2,z3,z4⟩:=qG9 _ _ hW;have H0:Hid _:=aI3 z1 z2 z4;clear z1 z2 z3 z4;have zG:(⟨L.toArray⟩:ByteArray).size=L.length:=rfl
 go_enter Tryz.func55,Tryz.ntmps55
 go_upto_region 2 with fail;rw[←hW];clear hW
 go_cut [17] from 12 to 16 (fun v wx=>v=.bool J∧wx=W)
 case first =>
  have hh:=qD.out;cases p1
  ·have qT:J=p2:=hh
   go_wp2_with (first|(go_at_call 116;first|(with_reducible refine(k1 _).mono ?_;rintro r w' ⟨rfl,hw⟩;replace hw:=hw.symm;subst hw)|(with_reducible refine(k2 _).mono ?_;rintro r w' ⟨rfl,hw⟩;replace hw:=hw.symm;subst hw)))
   go_meet
   exact⟨by rw[qT],rfl⟩
  ·have qT:J=true:=hh
   go_wp2_with (first|(go_at_call 116;(with_reducible refine(k1 _).mono ?_;rintro r w' ⟨rfl,hw⟩;replace hw:=hw.symm;subst hw)))
   go_meet
   exact⟨by rw[qT],rfl⟩
 case rest =>
 obtain⟨rfl,hw⟩:=hcut;replace hw:=hw.symm;subst hw;clear k1 k2 qD
 go_upto_if 17 with fail
 go_cut [0,5] from 18 to 20 (fun v0 v5 wx=>v0=.string ⟨S.toArray⟩∧v5=.string ⟨#[c0,c1]⟩∧Hid (wx.heap[w.heap.size]?=some (.cells #[iV 0,.string ⟨#[]⟩,iV 0,iV 0] 75 (0,0))∧wx.heap[w.heap.size+1]?=some (.cells #[iV b,.string ⟨#[]⟩,iV 0,iV 0] 75 (0,0))∧Bw w wx))
 case first =>
  cases J
  ·obtain rfl:S=L:=hS.out;obtain rfl:b=10:=hb.out;obtain rfl:c0=101:=qW.out;obtain rfl:c1=69:=qL.out
   go_wp2
   go_meet
   exact⟨rfl,rfl,H0⟩
  ·obtain rfl:S=L.drop 2:=hS.out;obtain rfl:b=16:=hb.out;obtain rfl:c0=112:=qW.out;obtain rfl:c1=80:=qL.out;have zS:(2:Int)≤(L.length:Int):=by have:=hp.out rfl;omega
   have ed:=qJ3 L 2;obtain⟨⟨e0,e1,e2,e3⟩,q0,q1,q2,q3⟩:=qV7 H0.out.2.1;clear k3 hL
   go_upto_region 3 with fail
   go_region
   all_goals go_wp2
   go_meet
   have a:=H0.out;exact⟨rfl,rfl,⟨(qK5 _ _ _ _ _ ω).trans a.1,yA0 a.2.1 _,((a.2.2.setCell (by show w.heap.size≤w.heap.size+1;omega) _)).drew⟩⟩
 case rest =>
 obtain⟨rfl,rfl,H1⟩:=hcut;clear H0 zG qW qL;have kk:=k3.out;clear k3
 go_wp2_with fail;refine(kk _).mono ?_
 rintro r w2 ⟨v,rfl,hv,qB⟩;have H2:Hid ((w2.heap[w.heap.size]?=some (.cells #[iV 0,.string ⟨#[]⟩,iV 0,iV 0] 75 (0,0))∧w2.heap[w.heap.size+1]?=some (.cells #[iV b,.string ⟨#[]⟩,iV 0,iV 0] 75 (0,0))∧Bw w w2)∧IxA S [c0,c1] v):=⟨⟨qQ0 H1.out.1 qB (qQ7 H1.out.1),qQ0 H1.out.2.1 qB (qQ7 H1.out.2.1),H1.out.2.2.trans (qB.mono H1.out.2.2.size)⟩,hv⟩;have HV:Hid (v = -1∨∃ i,i<S.length∧v=(i:Int)):=(hv.2.elim .inl fun⟨i,a,b',_⟩=>.inr ⟨i,a,b'⟩:v = -1∨∃ i,i<S.length∧v=(i:Int));clear kk qB H1 hv;have zJ:S.length≤1048576:=by rw[hS.out];split <;> (try rw[List.length_drop]) <;> omega
 have zQ:(⟨S.toArray⟩:ByteArray).size=S.length:=rfl
 go_upto_region 6 with fail
 go_upto_if 25 with fail
 go_cut [0,6] from 26 to 41 (fun v0 v6 wx=>∃ (D:List UInt8) (x:Int) (o:Bool),v0=.string ⟨D.toArray⟩∧v6=.bool o∧D.length≤1048576∧Hid (((wx.heap[w.heap.size]?=some (.cells #[iV 0,.string ⟨#[]⟩,iV 0,iV 0] 75 (0,0))∧wx.heap[w.heap.size+1]?=some (.cells #[iV b,.string ⟨#[]⟩,iV 0,iV x] 75 (0,0))∧Bw w wx)∧IxA S [c0,c1] v)∧PP v b (cA D++T D) (T D).length x (o&&dG (cA D++T D))))
 case first =>
  rcases HV.out with rfl|⟨i,hi,rfl⟩
  ·obtain⟨⟨e0,e1,e2,e3⟩,-⟩:=qV7 H2.out.1.2.1;obtain⟨⟨z0,z1,z2,z3⟩,y0,y1,H,y3⟩:=qV7 H2.out.1.1;cases J
   ·have H3:=qK.out rfl;obtain rfl:b=10:=hb.out;clear qV qJ qK k4 k5 k6;have qU:Hid _:=H3;clear H3
    go_wp2
    go_meet
    exact⟨S,0,true,rfl,rfl,zJ,⟨H2.out,by rw[Bool.true_and];exact qU.out⟩⟩
   ·have qU:Hid _:=qJ.out rfl;obtain rfl:b=16:=hb.out;clear qV qJ qK k4 k5 k6
    go_wp2;have a:=H2.out;refine kB8 (qQ6 rfl _ _ w.heap.size 75 #[iV 0,.string ⟨#[]⟩,iV 0,iV 0] (0,0) _ rfl (yM3 a.1.1 _ _ _ _) Tryz.underlying75 rfl (by kernel_rfl)) rfl ?_
    exact⟨-1,0,[],0,0,false,rfl,a.2,qU.out,(((a.1.2.2.setCell lR _).setCell lR _).setCell lR _).setCell lR _⟩
  ·obtain⟨⟨e0,e1,e2,e3⟩,f0,f1,f2,f3⟩:=qV7 H2.out.1.2.1;have zR:(0:Int)≤(i:Int):=ω;have zD:IntKind.i64.wrap ((i:Int)+1)=(i:Int)+1:=by rw[kB5];omega
   have zP:(i:Int)+1≤(S.length:Int):=ω;have zM:(i:Int)≤(S.length:Int):=ω;have et:=qK0 S i;have ed:=qJ3 S (i+1);have kk:=k4.out w2 i hi;have qU:Hid _:=qV.out i hi;have HI:Hid _:=hi;clear qV qJ qK k4 k5 k6 hi HV;generalize xE (S.drop (i+1))=x at *;generalize oE (S.drop (i+1))=o at *
   go_wp2_with fail;refine kk.mono ?_;rintro r w3 ⟨rfl,qF⟩;have H3:Hid ((w3.heap[w.heap.size]?=some (.cells #[iV 0,.string ⟨#[]⟩,iV 0,iV 0] 75 (0,0))∧w3.heap[w.heap.size+1]?=some (.cells #[iV b,.string ⟨#[]⟩,iV 0,iV 0] 75 (0,0))∧Bw w w3)∧IxA S [c0,c1] (i:Int)):=⟨⟨qQ0 H2.out.1.1 qF (qQ7 H2.out.1.1),qQ0 H2.out.1.2.1 qF (qQ7 H2.out.1.2.1),H2.out.1.2.2.trans (qF.mono H2.out.1.2.2.size)⟩,H2.out.2⟩;clear kk qF H2 e0 e1 e2 e3 f0 f1 f2 f3;obtain⟨⟨e0,e1,e2,e3⟩,f0,f1,f2,f3⟩:=qV7 H3.out.1.2.1
   go_wp2
   go_meet
   have a:=H3.out;exact⟨S.take i,x,o,rfl,rfl,by rw[List.length_take];omega,⟨⟨⟨(qK5 _ _ _ _ _ ω).trans a.1.1,yE7 a.1.2.1 _,a.1.2.2.setCell (by show w.heap.size≤w.heap.size+1;omega) _⟩,a.2⟩,qU.out⟩⟩
 case rest =>
 obtain⟨D,x,o,rfl,rfl,zN,H3⟩:=hcut;have kk:=k5.out;clear H2 qV qJ qK k4 k5 HV zQ zJ
 go_wp2_with fail;refine(kk _ D zN).mono ?_
 rintro r w4 ⟨bb,rfl,qH⟩;have H4:Hid (((w4.heap[w.heap.size]?=some (.cells #[iV 0,.string ⟨#[]⟩,iV 0,iV 0] 75 (0,0))∧w4.heap[w.heap.size+1]?=some (.cells #[iV b,.string ⟨#[]⟩,iV 0,iV x] 75 (0,0))∧Bw w w4)∧IxA S [c0,c1] v)∧PP v b (cA D++T D) (T D).length x (o&&dG (cA D++T D))):=⟨⟨⟨qQ0 H3.out.1.1.1 qH (qQ7 H3.out.1.1.1),qQ0 H3.out.1.1.2.1 qH (qQ7 H3.out.1.1.2.1),H3.out.1.1.2.2.trans (qH.mono H3.out.1.1.2.2.size)⟩,H3.out.1.2⟩,H3.out.2⟩;clear kk qH H3;obtain⟨C,qG⟩:=eE (cA D++T D);obtain⟨hh,qR⟩:=eE ((T D).length);have zB:=qY.out D;have zK:(⟨(cA D).toArray⟩:ByteArray).size+(⟨(T D).toArray⟩:ByteArray).size≤9223372036854775807:=by rw[bsz,bsz];omega
 have zX:(⟨(cA D).toArray⟩:ByteArray)++⟨(T D).toArray⟩=⟨C.toArray⟩:=by rw[qZ0,qG]
 have zY:(⟨(T D).toArray⟩:ByteArray).size=hh:=by rw[qR];rfl
 have zZ:C.length≤1048576:=by rw[qG,kM0];omega
 have kD:=fun W=>k6.out W C zZ;have qO:Hid (((w4.heap[w.heap.size]?=some (.cells #[iV 0,.string ⟨#[]⟩,iV 0,iV 0] 75 (0,0))∧w4.heap[w.heap.size+1]?=some (.cells #[iV b,.string ⟨#[]⟩,iV 0,iV x] 75 (0,0))∧Bw w w4)∧IxA S [c0,c1] v)∧PP v b C (hh:Nat) x (o&&dG C)):=by rw[qG,qR];exact H4
 clear k6 H4 zB qG qR qY;generalize dG C=gd at *;generalize zL:cA D=A9 at *;generalize zT:T D=B9 at *;obtain⟨⟨e0,e1,e2,e3⟩,f0,f1,f2,f3⟩:=qV7 qO.out.1.1.2.1;obtain⟨W5,qE⟩:=eE ((w4.setCell ⟨w.heap.size+1,1,none⟩ (.string ⟨C.toArray⟩)).setCell ⟨w.heap.size+1,2,none⟩ (iV (hh:Nat)));have H5:Hid (((W5.heap[w.heap.size]?=some (.cells #[iV 0,.string ⟨#[]⟩,iV 0,iV 0] 75 (0,0))∧Hx W5 (w.heap.size+1) #[iV b,.string ⟨C.toArray⟩,iV (hh:Nat),iV x] 75∧Bw w W5)∧IxA S [c0,c1] v)∧PP v b C (hh:Nat) x (o&&gd)):=(by
  have a:=qO.out;rw[qE];exact⟨⟨⟨(qK5 _ _ _ _ _ ω).trans ((qK5 _ _ _ _ _ ω).trans a.1.1.1),yE8 (yE9 a.1.1.2.1 _) _,(a.1.1.2.2.setCell (by show w.heap.size≤w.heap.size+1;omega) _).setCell (by show w.heap.size≤w.heap.size+1;omega) _⟩,a.1.2⟩,a.2⟩:_∧_)
 clear qO
 go_upto_region 13 with fail;rw[←qE];clear qE zK zX zY e0 e1 e2 e3 f0 f1 f2 f3;obtain⟨⟨⟨m0,m1,qN⟩,zU⟩,zV⟩:=H5.out;cases o
 ·refine qG4 qX2 [0,1,2,3,4,5,6,7,8,10] [9] [55,56,57,58,59,60,61,62,63,3] [[],[],[1],[2],[3,2],[2],[5,2],[4,6,2],[2,7],[8]] [[0]] [0] (fun _=>2) (fun _=>w.heap.size) w.heap.size 75 (fun _=>True) 4 W5 _ [isV (.agg #[iV b,.string ⟨C.toArray⟩,iV (hh:Nat),iV x]),isV (.bool false),isV (.bool false),isV (undef),isV (undef),isV (undef),isV (undef),isV (undef),isV (.bool false),isV (.bool false)] (by kernel_rfl) ⟨qQ2 _,qQ2 _,qQ2 _,qQ2 _,qQ2 _,qQ2 _,qQ2 _,qQ2 _,qQ2 _,qQ2 _,trivial⟩ ⟨fun _ _ _ _ _ _ _ h=>h,fun _ _ _ _ _ _ _ h=>h,fun _ _ _ _ _ _ _ h=>h,fun _ _ _ _ _ _ _ h=>h,fun _ _ _ _ _ _ _ h=>h,fun _ _ _ _ _ _ _ h=>h,fun _ _ _ _ _ _ _ h=>h,fun _ _ _ _ _ _ _ h=>h,fun _ _ _ _ _ _ _ h=>h,fun _ _ _ _ _ _ _ h=>h,trivial⟩ (by show ∀ s ∈ [55,56,57,58,59,60,61,62,63,3],s<64;decide) ?_ ?_ (by kernel_rfl) ?_ ?_ ?_ (fun k k' h h' _=>by have h1:k<1:=h;have h2:k'<1:=h';omega) qN.size ?_
  ·intro i hi V u h;obtain rfl:i=0:=Nat.lt_one_iff.1 hi;obtain rfl:u=_:=h;exact⟨_,rfl,rfl,trivial,xE1 rfl rfl rfl rfl⟩
  ·intro j hj o F act V hK I Y zH;have zF:j<10:=hj;have qC:V.heap[w.heap.size+1]?=_:=(hK.keep (w.heap.size+1) (qQ7 m1) (fun k _=>by omega)).trans m1
   obtain⟨⟨qP,qM,qI,qA⟩,-⟩:=qV7 qC;have qZ:act.tmps[(4:Nat)]?=some (Value.pointer (some ⟨w.heap.size+1,0,none⟩)):=(I 4 δ).trans rfl;have qS:act.tmps[(6:Nat)]?=some (Value.bool false):=(I 6 δ).trans rfl;rcases(by omega:j=0∨j=1∨j=2∨j=3∨j=4∨j=5∨j=6∨j=7∨j=8∨j=9)with rfl|rfl|rfl|rfl|rfl|rfl|rfl|rfl|rfl|rfl
   ·obtain rfl:=kF0 F;exact .inl ⟨rfl,(qZ6 (w':=V) (by simp[execOp,Act.eval,qZ,qP,qM,qI,qA,go_sem]) ⟨_,rfl,rfl,kH9 _ _⟩)⟩
   ·obtain rfl:=kF0 F;exact .inl ⟨rfl,qZ7 rfl qS ⟨_,rfl,rfl,kH9 _ _⟩⟩
   ·obtain rfl:=kF0 F;have y1:act.tmps[(56:Nat)]?=_:=dV (Y 1 (by simp[dL])) rfl
    exact .inl ⟨rfl,qZ7 rfl y1 ⟨_,rfl,rfl,kH9 _ _⟩⟩
   ·obtain rfl:=kF0 F;have H:act.tmps[(57:Nat)]?=_:=dV (Y 2 (by simp[dL])) rfl
    exact .inr (qV1 rfl rfl rfl rfl H δ ⟨_,rfl,rfl,kH9 _ _⟩)
   ·obtain rfl:=kF0 F;have H:act.tmps[(57:Nat)]?=_:=dV (Y 2 (by simp[dL])) rfl
    exact .inr (qV1 rfl rfl rfl rfl H δ ⟨_,rfl,rfl,kH9 _ _⟩)
   ·obtain rfl:=kF0 F;have H:act.tmps[(57:Nat)]?=_:=dV (Y 2 (by simp[dL])) rfl
    exact .inr (qV1 rfl rfl rfl rfl H δ ⟨_,rfl,rfl,kH9 _ _⟩)
   ·obtain rfl:=kF0 F;have H:act.tmps[(57:Nat)]?=_:=dV (Y 2 (by simp[dL])) rfl
    exact .inr (qV1 rfl rfl rfl rfl H δ ⟨_,rfl,rfl,kH9 _ _⟩)
   ·obtain rfl:=kF0 F;have H:act.tmps[(57:Nat)]?=_:=dV (Y 2 (by simp[dL])) rfl
    exact .inr (qV1 rfl rfl rfl rfl H δ ⟨_,rfl,rfl,kH9 _ _⟩)
   ·obtain rfl:=kF0 F;have H:act.tmps[(57:Nat)]?=_:=dV (Y 2 (by simp[dL])) rfl
    have y7:act.tmps[(62:Nat)]?=_:=dV (Y 7 (by simp[dL])) rfl
    exact .inl ⟨rfl,(qZ6 (w':=V) (by simp[execOp,Act.eval,H,y7,go_sem]) ⟨_,rfl,rfl,kH9 _ _⟩)⟩
   ·obtain rfl:=kF0 F;have y8:act.tmps[(63:Nat)]?=_:=dV (Y 8 (by simp[dL])) rfl
    exact .inl ⟨rfl,qX5 rfl y8 ⟨_,rfl,rfl,kH9 _ _⟩⟩
  ·intro k hk;obtain rfl:k=0:=Nat.lt_one_iff.1 hk;exact⟨_,rfl,rfl⟩
  ·intro k hk;exact⟨rfl,δ⟩
  ·intro k hk;exact⟨kH8 _,_,m0,rfl,trivial⟩
  ·intro u V hK hu qX;obtain⟨cs,y0,z0⟩:=qX 0 δ;have u0:u 0=.agg #[iV b,.string ⟨C.toArray⟩,iV (hh:Nat),iV x]:=hu 0 δ;have u9:u 9=.bool false:=hu 9 δ;have qQ:u 0=.agg cs:=y0;rw[u0] at qQ;obtain rfl:=Value.agg.inj qQ;have HZ:Hid _:=And.intro z0 (qN.trans hK.below);clear qX hK y0 qQ z0 hu;simp only[putL,show List.range 10 = [0,1,2,3,4,5,6,7,8,9] from rfl,kG2,kG3,kG4,kG5,kH2,kH3,kH0,kG9,List.foldl_cons,List.foldl_nil,Nat.reduceLT,Nat.reduceMod,Nat.reduceDiv,Nat.reduceMul,Nat.reduceAdd,Nat.reduceEqDiff,reduceIte,kG8,Act.put,kU9,kG0,kG1];rw[u9];clear u9 u0
   go_wp2;refine kB8 (qQ6 rfl _ _ w.heap.size 75 #[iV b,.string ⟨C.toArray⟩,iV (hh:Nat),iV x] (0,0) _ rfl HZ.out.1 Tryz.underlying75 rfl (by kernel_rfl)) rfl ?_
   exact⟨v,b,C,hh,x,false,rfl,zU,zV,HZ.out.2⟩
 ·refine qG4 qX2 [0,1,2,3,4,5,6,7,8,10] [9] [55,56,57,58,59,60,61,62,63,3] [[],[],[1],[2],[3,2],[2],[5,2],[4,6,2],[2,7],[8]] [[0]] [0] (fun _=>2) (fun _=>w.heap.size) w.heap.size 75 (fun _=>True) 4 W5 _ [isV (.agg #[iV b,.string ⟨C.toArray⟩,iV (hh:Nat),iV x]),isV (.bool true),isV (.bool true),isV (.pointer (some ⟨w.heap.size+1,1,none⟩)),isV (.string ⟨C.toArray⟩),isV (.pointer (some ⟨w.heap.size+1,0,none⟩)),isV (iV b),isV (.bool gd),isV (.bool gd),isV (.bool gd)] (by kernel_rfl) ⟨qQ2 _,qQ2 _,qQ2 _,qQ2 _,qQ2 _,qQ2 _,qQ2 _,qQ2 _,qQ2 _,qQ2 _,trivial⟩ ⟨fun _ _ _ _ _ _ _ h=>h,fun _ _ _ _ _ _ _ h=>h,fun _ _ _ _ _ _ _ h=>h,fun _ _ _ _ _ _ _ h=>h,fun _ _ _ _ _ _ _ h=>h,fun _ _ _ _ _ _ _ h=>h,fun _ _ _ _ _ _ _ h=>h,fun _ _ _ _ _ _ _ h=>h,fun _ _ _ _ _ _ _ h=>h,fun _ _ _ _ _ _ _ h=>h,trivial⟩ (by show ∀ s ∈ [55,56,57,58,59,60,61,62,63,3],s<64;decide) ?_ ?_ (by kernel_rfl) ?_ ?_ ?_ (fun k k' h h' _=>by have h1:k<1:=h;have h2:k'<1:=h';omega) qN.size ?_
  ·intro i hi V u h;obtain rfl:i=0:=Nat.lt_one_iff.1 hi;obtain rfl:u=_:=h;exact⟨_,rfl,rfl,trivial,xE1 rfl rfl rfl rfl⟩
  ·intro j hj o F act V hK I Y zH;have zF:j<10:=hj;have qC:V.heap[w.heap.size+1]?=_:=(hK.keep (w.heap.size+1) (qQ7 m1) (fun k _=>by omega)).trans m1
   obtain⟨⟨qP,qM,qI,qA⟩,-⟩:=qV7 qC;have qZ:act.tmps[(4:Nat)]?=some (Value.pointer (some ⟨w.heap.size+1,0,none⟩)):=(I 4 δ).trans rfl;have qS:act.tmps[(6:Nat)]?=some (Value.bool true):=(I 6 δ).trans rfl;rcases(by omega:j=0∨j=1∨j=2∨j=3∨j=4∨j=5∨j=6∨j=7∨j=8∨j=9)with rfl|rfl|rfl|rfl|rfl|rfl|rfl|rfl|rfl|rfl
   ·obtain rfl:=kF0 F;exact .inl ⟨rfl,(qZ6 (w':=V) (by simp[execOp,Act.eval,qZ,qP,qM,qI,qA,go_sem]) ⟨_,rfl,rfl,kH9 _ _⟩)⟩
   ·obtain rfl:=kF0 F;exact .inl ⟨rfl,qZ7 rfl qS ⟨_,rfl,rfl,kH9 _ _⟩⟩
   ·obtain rfl:=kF0 F;have y1:act.tmps[(56:Nat)]?=_:=dV (Y 1 (by simp[dL])) rfl
    exact .inl ⟨rfl,qZ7 rfl y1 ⟨_,rfl,rfl,kH9 _ _⟩⟩
   ·obtain rfl:=kF0 F;have H:act.tmps[(57:Nat)]?=_:=dV (Y 2 (by simp[dL])) rfl
    exact .inr (qY6 rfl rfl rfl rfl H (qZ6 (w':=V) (by simp[execOp,Act.eval,qZ,go_sem]) ⟨_,rfl,rfl,kH9 _ _⟩))
   ·obtain rfl:=kF0 F;have H:act.tmps[(57:Nat)]?=_:=dV (Y 2 (by simp[dL])) rfl
    have y3:act.tmps[(58:Nat)]?=_:=dV (Y 3 (by simp[dL])) rfl
    exact .inr (qY6 rfl rfl rfl rfl H (qZ6 (w':=V) (by simp[execOp,Act.eval,y3,qM,go_sem]) ⟨_,rfl,rfl,kH9 _ _⟩))
   ·obtain rfl:=kF0 F;have H:act.tmps[(57:Nat)]?=_:=dV (Y 2 (by simp[dL])) rfl
    exact .inr (qY6 rfl rfl rfl rfl H (qZ6 (w':=V) (by simp[execOp,Act.eval,qZ,go_sem]) ⟨_,rfl,rfl,kH9 _ _⟩))
   ·obtain rfl:=kF0 F;have H:act.tmps[(57:Nat)]?=_:=dV (Y 2 (by simp[dL])) rfl
    have y5:act.tmps[(60:Nat)]?=_:=dV (Y 5 (by simp[dL])) rfl
    exact .inr (qY6 rfl rfl rfl rfl H (qZ6 (w':=V) (by simp[execOp,Act.eval,y5,qP,go_sem]) ⟨_,rfl,rfl,kH9 _ _⟩))
   ·obtain rfl:=kF0 F;have H:act.tmps[(57:Nat)]?=_:=dV (Y 2 (by simp[dL])) rfl
    have y4:act.tmps[(59:Nat)]?=_:=dV (Y 4 (by simp[dL])) rfl
    have y6:act.tmps[(61:Nat)]?=_:=dV (Y 6 (by simp[dL])) rfl
    refine .inr (qY6 rfl rfl rfl rfl H (qQ9 rfl (qZ4 Tryz.func120 (by kernel_rfl) (by kernel_rfl)) (map2 y4 y6) ?_))
    refine(kD V).mono ?_
    rintro r w' ⟨rfl,rfl⟩;exact⟨_,rfl,_,rfl,rfl,kH9 _ _⟩
   ·obtain rfl:=kF0 F;have H:act.tmps[(57:Nat)]?=_:=dV (Y 2 (by simp[dL])) rfl
    have y7:act.tmps[(62:Nat)]?=_:=dV (Y 7 (by simp[dL])) rfl
    exact .inl ⟨rfl,(qZ6 (w':=V) (by simp[execOp,Act.eval,H,y7,go_sem]) ⟨_,rfl,rfl,kH9 _ _⟩)⟩
   ·obtain rfl:=kF0 F;have y8:act.tmps[(63:Nat)]?=_:=dV (Y 8 (by simp[dL])) rfl
    exact .inl ⟨rfl,qX5 rfl y8 ⟨_,rfl,rfl,kH9 _ _⟩⟩
  ·intro k hk;obtain rfl:k=0:=Nat.lt_one_iff.1 hk;exact⟨_,rfl,rfl⟩
  ·intro k hk;exact⟨rfl,δ⟩
  ·intro k hk;exact⟨kH8 _,_,m0,rfl,trivial⟩
  ·intro u V hK hu qX;obtain⟨cs,y0,z0⟩:=qX 0 δ;have u0:u 0=.agg #[iV b,.string ⟨C.toArray⟩,iV (hh:Nat),iV x]:=hu 0 δ;have u9:u 9=.bool gd:=hu 9 δ;have qQ:u 0=.agg cs:=y0;rw[u0] at qQ;obtain rfl:=Value.agg.inj qQ;have HZ:Hid _:=And.intro z0 (qN.trans hK.below);clear qX hK y0 qQ z0 hu;simp only[putL,show List.range 10 = [0,1,2,3,4,5,6,7,8,9] from rfl,kG2,kG3,kG4,kG5,kH2,kH3,kH0,kG9,List.foldl_cons,List.foldl_nil,Nat.reduceLT,Nat.reduceMod,Nat.reduceDiv,Nat.reduceMul,Nat.reduceAdd,Nat.reduceEqDiff,reduceIte,kG8,Act.put,kU9,kG0,kG1];rw[u9];clear u9 u0
   go_wp2;refine kB8 (qQ6 rfl _ _ w.heap.size 75 #[iV b,.string ⟨C.toArray⟩,iV (hh:Nat),iV x] (0,0) _ rfl HZ.out.1 Tryz.underlying75 rfl (by kernel_rfl)) rfl ?_
   exact⟨v,b,C,hh,x,gd,rfl,zU,zV,HZ.out.2⟩
end Go.Proofs.YtfkaogdmlcdceaaGreatDoor
namespace Go.Proofs.YtfkaogdmlcdceaaGreatDoor
open Go.RowKit Go.Fl64
attribute [local go_sem] iV Nu
theorem zE9 (b h e m:Int) (d:ByteArray) (neg:Bool) (tw:Bool×Nat×Int) (f:Nat) (w:World)
  (k1:Hid (∀ W,Bw w W→Ca 121 #[.agg #[iV b,.string d,iV h,iV e]] W fun r w'=>OutA W tw r w'))
  (k2:Hid (∀ W X,Bw w W→PN W X tw→Ca 89 #[X] W (Rq W (iV 0))))
  (k3:Hid (∀ W,Bw w W→Ca 122 #[.bool neg,.int .u64 0,iV 0,iV m] W (Rq W (.float .f64 f)))) :
  Ca 56 #[.agg #[iV b,.string d,iV h,iV e],.bool neg,iV m] w (Rq w (.float .f64 f)):=by
 obtain⟨W,hW⟩:=eE (w.alloc (.cells #[iV b,.string d,iV h,iV e] 75));have m1:Hx W w.heap.size #[iV b,.string d,iV h,iV e] 75:=by rw[hW];exact kB7 _ _
 have m4:Bw w W:=by rw[hW];exact bR.alloc lR _
 obtain⟨c0,c1,c2,c3⟩:=qH4 m1;have I:Hid _:=And.intro m1 m4;have kk:=k1.out W m4;clear m1 m4 k1
 go_enter Tryz.func56,Tryz.ntmps56
 go_upto_region 1 with fail;rw[←hW];clear hW
 go_wp2_with fail;refine kk.mono ?_;rintro r w1 ⟨s1,L,n1,T,e1,rfl,hA,J⟩;clear kk c0 c1 c2 c3;obtain⟨C,V⟩:=eE (w1.alloc (.cells (Nu s1 L n1 T e1) 50));have F:Bw w1 C:=by rw[V];exact bR.alloc lR _
 have n6:Hn C w1.heap.size s1 L n1 T e1 50:=by rw[V];exact kB7 _ _
 go_upto_region 2 with fail;rw[←V];clear V;have D:=hA.later F;have u:=J.trans (F.mono J.size);have qZ:=kF6 (qQ7 I.out.1) J.size;clear F hA J;generalize w1.heap.size=qX at *;have H:Hid (Hx C w.heap.size #[iV b,.string d,iV h,iV e] 75∧PBx C qX s1 L n1 T e1 tw∧Bw w C∧w.heap.size<qX):=⟨qQ0 I.out.1 u (qQ7 I.out.1),⟨n6,D⟩,I.out.2.trans (u.mono I.out.2.size),qZ⟩;obtain⟨⟨c0,c1,c2⟩,-⟩:=qQ3 H.out.2.1.1;have kk:=k2.out C _ H.out.2.2.1 D;clear k2 n6 D u qZ I
 go_wp2_with fail;refine kk.mono ?_;rintro r w2 ⟨rfl,Y⟩;have H2:Hid _:=aI4 (qQ0 H.out.1 Y (qQ7 H.out.1)) (H.out.2.1.later Y) (H.out.2.2.1.trans (Y.mono H.out.2.2.1.size)) H.out.2.2.2;have qQ:=k3.out w2 H2.out.2.2.1;have HB:Hid _:=H2.out.2.2.1;clear kk Y H H2 c0 c1 c2 k3
 go_wp2_with fail;refine qQ.mono ?_;rintro r w3 ⟨rfl,qY⟩;have qK:Hid _:=HB.out.trans (qY.mono HB.out.size);clear qQ qY HB
 go_wp2
 go_ret;exact⟨rfl,qK.out⟩
theorem zA6 (s:List UInt8) (m:Int) (w:World) (k0:∀ W,Ca 51 #[iV m] W fun r w'=>r=.returned (.bool false)∧w'=W) :
  Ca 14 #[.string ⟨s.toArray⟩,iV m] w (Rq w (.tuple #[.float .f64 0,iV 1])):=by
 go_enter Tryz.func14,Tryz.ntmps14
 go_wp2_with (first|(go_at_call 51;refine(k0 _).mono ?_;rintro r w' ⟨rfl,rfl⟩))
 refine kB8 (kM3 rfl _ _ _) rfl ?_;exact⟨rfl,kH9 _ _⟩
theorem zA7 (s:List UInt8) (m:Int) (w:World) (J:1048576<s.length) (k0:∀ W,Ca 51 #[iV m] W fun r w'=>r=.returned (.bool true)∧w'=W) :
  Ca 14 #[.string ⟨s.toArray⟩,iV m] w (Rq w (.tuple #[.float .f64 0,iV 2])):=by
 have Y:(⟨s.toArray⟩:ByteArray).size=s.length:=rfl;have u:(1048576:Int)<(s.length:Int):=ω
 go_enter Tryz.func14,Tryz.ntmps14
 go_wp2_with (first|(go_at_call 51;refine(k0 _).mono ?_;rintro r w' ⟨rfl,rfl⟩))
 refine kB8 (kM3 rfl _ _ _) rfl ?_;exact⟨rfl,kH9 _ _⟩
theorem yB5 (s D:List UInt8) (m Y:Int) (f:Nat) (w:World) (C:s.length≤1048576) (k0:∀ W,Ca 51 #[iV m] W fun r w'=>r=.returned (.bool true)∧w'=W) (H:∀ W,Ca 52 #[.string ⟨s.toArray⟩] W (Rq W (.tuple #[iV Y,.string ⟨D.toArray⟩]))) (T:D = [105,110,102])
  (V:∀ W,Ca 53 #[iV Y] W fun r w'=>r=.returned (.float .f64 f)∧w'=W) :
  Ca 14 #[.string ⟨s.toArray⟩,iV m] w (Rq w (.tuple #[.float .f64 f,iV 0])):=by
 subst T;have F:(⟨s.toArray⟩:ByteArray).size=s.length:=rfl;have J:¬ (1048576:Int)<(s.length:Int):=ω
 go_enter Tryz.func14,Tryz.ntmps14
 go_wp2_with (first|(go_at_call 51;refine(k0 _).mono ?_;rintro r w' ⟨rfl,rfl⟩)|(go_at_call 52;refine(H _).mono ?_;rintro r L ⟨rfl,u⟩)|(go_at_call 53;refine(V _).mono ?_;rintro r w' ⟨rfl,rfl⟩))
 refine kB8 (kM3 rfl _ _ _) rfl ?_;exact⟨rfl,u⟩
theorem yB4 (s D:List UInt8) (m J:Int) (f:Nat) (w:World) (C:s.length≤1048576) (k0:∀ W,Ca 51 #[iV m] W fun r w'=>r=.returned (.bool true)∧w'=W) (H:∀ W,Ca 52 #[.string ⟨s.toArray⟩] W (Rq W (.tuple #[iV J,.string ⟨D.toArray⟩]))) (T:D = [110,97,110])
  (V:∀ W,Ca 54 #[] W fun r w'=>r=.returned (.float .f64 f)∧w'=W) :
  Ca 14 #[.string ⟨s.toArray⟩,iV m] w (Rq w (.tuple #[.float .f64 f,iV 0])):=by
 subst T;have F:(⟨s.toArray⟩:ByteArray).size=s.length:=rfl;have Y:¬ (1048576:Int)<(s.length:Int):=ω
 go_enter Tryz.func14,Tryz.ntmps14
 go_wp2_with (first|(go_at_call 51;refine(k0 _).mono ?_;rintro r w' ⟨rfl,rfl⟩)|(go_at_call 52;refine(H _).mono ?_;rintro r L ⟨rfl,u⟩)|(go_at_call 54;refine(V _).mono ?_;rintro r w' ⟨rfl,rfl⟩))
 refine kB8 (kM3 rfl _ _ _) rfl ?_;exact⟨rfl,u⟩
theorem zA8 (s D:List UInt8) (m sg:Int) (w:World) (hL:s.length≤1048576) (k0:∀ W,Ca 51 #[iV m] W fun r w'=>r=.returned (.bool true)∧w'=W) (kC:∀ W,Ca 52 #[.string ⟨s.toArray⟩] W (Rq W (.tuple #[iV sg,.string ⟨D.toArray⟩]))) (qX:(D == [105,110,102])=false) (qY:(D == [110,97,110])=false)
  (kS:Hid (∀ W,Bw w W→Ca 55 #[.string ⟨D.toArray⟩] W fun r w'=>∃ (b:Int) (d:List UInt8) (h e:Int),r=.returned (.tuple #[.agg #[iV b,.string ⟨d.toArray⟩,iV h,iV e],.bool false])∧Bw W w'))  :
  Ca 14 #[.string ⟨s.toArray⟩,iV m] w (Rq w (.tuple #[.float .f64 0,iV 3])):=by
 have qZ:(⟨s.toArray⟩:ByteArray).size=s.length:=rfl;have qQ:¬ (1048576:Int)<(s.length:Int):=ω
 go_enter Tryz.func14,Tryz.ntmps14
 go_wp2_with (first|(go_at_call 51;refine(k0 _).mono ?_;rintro r w' ⟨rfl,rfl⟩)|(go_at_call 52;refine(kC _).mono ?_;rintro r w1 ⟨rfl,J⟩))
 have L:Hid _:=J;have I:=kS.out w1 J;clear kS J kC;refine I.mono ?_;rintro r F ⟨b,d,h,e,rfl,H⟩;clear I;obtain⟨W2,Y⟩:=eE (F.alloc (.cells #[iV b,.string ⟨d.toArray⟩,iV h,iV e] 75));have V:Bw F W2:=by rw[Y];exact bR.alloc lR _
 have C:Hx W2 F.heap.size #[iV b,.string ⟨d.toArray⟩,iV h,iV e] 75:=by rw[Y];exact kB7 _ _
 go_upto_region 12 with fail;rw[←Y];clear Y;have u:=L.out.trans (H.mono L.out.size);have T:Hid _:=u.trans (V.mono u.size);clear V H u L;generalize F.heap.size=qK at *;obtain⟨c0,c1,c2,c3⟩:=qH4 C;clear C
 go_wp2;refine kB8 (kM3 rfl _ _ _) rfl ?_;exact⟨rfl,T.out⟩
theorem zH5 (s D d:List UInt8) (m sg b h e:Int) (w:World) (hL:s.length≤1048576) (k0:∀ W,Ca 51 #[iV m] W fun r w'=>r=.returned (.bool true)∧w'=W) (kC:∀ W,Ca 52 #[.string ⟨s.toArray⟩] W (Rq W (.tuple #[iV sg,.string ⟨D.toArray⟩]))) (qJ:(D == [105,110,102])=false) (qK:(D == [110,97,110])=false)
  (kS:Hid (∀ W,Bw w W→Ca 55 #[.string ⟨D.toArray⟩] W (Rq W (.tuple #[.agg #[iV b,.string ⟨d.toArray⟩,iV h,iV e],.bool true])))) (hd:1100<d.length) :
  Ca 14 #[.string ⟨s.toArray⟩,iV m] w (Rq w (.tuple #[.float .f64 0,iV 2])):=by
 have qZ:(⟨s.toArray⟩:ByteArray).size=s.length:=rfl;have qQ:¬ (1048576:Int)<(s.length:Int):=ω;have qY:(⟨d.toArray⟩:ByteArray).size=d.length:=rfl;have qX:(1100:Int)<(d.length:Int):=ω
 go_enter Tryz.func14,Tryz.ntmps14
 go_wp2_with (first|(go_at_call 51;refine(k0 _).mono ?_;rintro r w' ⟨rfl,rfl⟩)|(go_at_call 52;refine(kC _).mono ?_;rintro r w1 ⟨rfl,J⟩))
 have L:Hid _:=J;have I:=kS.out w1 J;clear kS J kC;refine I.mono ?_;rintro r F ⟨rfl,H⟩;clear I;obtain⟨W2,Y⟩:=eE (F.alloc (.cells #[iV b,.string ⟨d.toArray⟩,iV h,iV e] 75));have V:Bw F W2:=by rw[Y];exact bR.alloc lR _
 have C:Hx W2 F.heap.size #[iV b,.string ⟨d.toArray⟩,iV h,iV e] 75:=by rw[Y];exact kB7 _ _
 go_upto_region 12 with fail;rw[←Y];clear Y;have u:=L.out.trans (H.mono L.out.size);have T:Hid _:=u.trans (V.mono u.size);clear V H u L;generalize F.heap.size=qV at *;obtain⟨c0,c1,c2,c3⟩:=qH4 C;clear C
 go_wp2;refine kB8 (kM3 rfl _ _ _) rfl ?_;exact⟨rfl,T.out⟩
theorem yC8 (s D d:List UInt8) (m sg b h e:Int) (w:World) (hL:s.length≤1048576) (k0:∀ W,Ca 51 #[iV m] W fun r w'=>r=.returned (.bool true)∧w'=W) (kC:∀ W,Ca 52 #[.string ⟨s.toArray⟩] W (Rq W (.tuple #[iV sg,.string ⟨D.toArray⟩]))) (qV:(D == [105,110,102])=false) (qJ:(D == [110,97,110])=false)
  (kS:Hid (∀ W,Bw w W→Ca 55 #[.string ⟨D.toArray⟩] W (Rq W (.tuple #[.agg #[iV b,.string ⟨d.toArray⟩,iV h,iV e],.bool true])))) (f:Nat) (hd:d.length≤1100) (kR:Hid (∀ W,Bw w W→Ca 56 #[.agg #[iV b,.string ⟨d.toArray⟩,iV h,iV e],.bool (decide (sg<0)),iV m] W (Rq W (.float .f64 f)))) :
  Ca 14 #[.string ⟨s.toArray⟩,iV m] w (Rq w (.tuple #[.float .f64 f,iV 0])):=by
 have qY:(⟨s.toArray⟩:ByteArray).size=s.length:=rfl;have qZ:¬ (1048576:Int)<(s.length:Int):=ω;have qX:(⟨d.toArray⟩:ByteArray).size=d.length:=rfl;have qK:¬ (1100:Int)<(d.length:Int):=ω
 go_enter Tryz.func14,Tryz.ntmps14
 go_wp2_with (first|(go_at_call 51;refine(k0 _).mono ?_;rintro r w' ⟨rfl,rfl⟩)|(go_at_call 52;refine(kC _).mono ?_;rintro r w1 ⟨rfl,V⟩))
 have HB:Hid _:=V;have H:=kS.out w1 V;clear kS V kC;refine H.mono ?_;rintro r C ⟨rfl,L⟩;clear H;obtain⟨I,Y⟩:=eE (C.alloc (.cells #[iV b,.string ⟨d.toArray⟩,iV h,iV e] 75));have F:Bw C I:=by rw[Y];exact bR.alloc lR _
 have n6:Hx I C.heap.size #[iV b,.string ⟨d.toArray⟩,iV h,iV e] 75:=by rw[Y];exact kB7 _ _
 go_upto_region 12 with fail;rw[←Y];clear Y;have u:=HB.out.trans (L.mono HB.out.size);have J:Hid _:=u.trans (F.mono u.size);clear F L u HB;generalize C.heap.size=qU at *;obtain⟨c0,c1,c2,c3⟩:=qH4 n6;clear n6;have H:=kR.out I J.out;clear kR
 go_wp2_with fail;refine H.mono ?_;rintro r w3 ⟨rfl,T⟩;have qQ:Hid _:=J.out.trans (T.mono J.out.size);clear H T J
 go_wp2;refine kB8 (kM3 rfl _ _ _) rfl ?_;exact⟨rfl,qQ.out⟩
end Go.Proofs.YtfkaogdmlcdceaaGreatDoor
namespace Go.Proofs.YtfkaogdmlcdceaaGreatDoor
open Go Go.RowKit Go.Fl64
attribute [local go_sem] iV Nu
theorem zR7 (s:List UInt8) (c:UInt8):Lib.hasPrefix s [c]=(s.head?==some c):=by
 cases s with
 | nil=>rfl
 | cons a t =>
  show([c].isPrefixOf (a :: t))=_
  by_cases h:c=a
  ·subst h;simp[List.isPrefixOf]
  ·have Y:(c==a)=false:=by rw[kN2];exact h
   have u:(some a==some c)=false:=by rw[kN2];exact fun e=>h (kF0 e).symm
   simp[List.isPrefixOf,Y,u]
theorem zL5 (s:List UInt8) (w:World) (u:s.length≤2000000):Ca 52 #[.string ⟨s.toArray⟩] w (Rq w (.tuple #[iV (csS s),.string ⟨(csD s).toArray⟩])):=by
 refine zA4 s w u (fun W=>?_) (fun W=>?_)
 ·have h:=Tryz.strings_HasPrefix ⟨s.toArray⟩ ⟨#[45]⟩ W;rw[←zR7];exact h
 ·have h:=Tryz.strings_HasPrefix ⟨s.toArray⟩ ⟨#[43]⟩ W;rw[←zR7];exact h
theorem yG1 (s:List UInt8):(csD s).length≤s.length:=by
 unfold csD;split
 ·rw[List.length_tail];omega
 ·exact kH8 _
def dgO (b:Int) (D:List UInt8):Bool:=qD6 D b&&decide (D ≠ [])
def exO (E:List UInt8):Bool:=dgO 10 (csD E)
def exX (E:List UInt8):Int:=if exO E then csS E*rdE (csD E) (csD E).length else 0
theorem yW9 (E:List UInt8) (w:World) (F:E.length≤1048576):Ca 118 #[.string ⟨E.toArray⟩] w (Rq w (.tuple #[iV (exX E),.bool (exO E)])):=by
 have H:=yG1 E;have k1:=fun W=>zL5 E W ω;have Y:=fun W=>zZ1 (csD E) 10 W ω;have J:csS E=1∨csS E = -1:=by unfold csS;split <;> simp
 by_cases h:exO E=true
 ·have u:(qD6 (csD E) 10&&decide (csD E ≠ []))=true:=h;rw[u] at Y;unfold exX;rw[kU6 h,h];exact zA0 E (csD E) (csS E) w ω J k1 Y ((qI5 _ _).1 (by rw[kB9] at u;exact u.1))
 ·have V:exO E=false:=by simpa using h
  have u:(qD6 (csD E) 10&&decide (csD E ≠ []))=false:=V;rw[u] at Y;unfold exX;rw[kU5 h,V];exact zP4 E (csD E) (csS E) w k1 Y
def hexP (L:List UInt8):Bool:=Lib.hasPrefix L [48,120]||Lib.hasPrefix L [48,88]
def psS (L:List UInt8):List UInt8:=if hexP L then L.drop 2 else L
def psb (L:List UInt8):Int:=if hexP L then 16 else 10
def psM (L:List UInt8):List UInt8:=if hexP L then [112,80] else [101,69]
def psV (L:List UInt8):Int:=Lib.indexAny (psS L) (psM L)
def psD0 (L:List UInt8):List UInt8:=if 0≤psV L then(psS L).take (psV L).toNat else psS L
def psE (L:List UInt8):List UInt8:=(psS L).drop ((psV L).toNat+1)
def psD (L:List UInt8):List UInt8:=cuA (psD0 L)++cuB (psD0 L)
def psH (L:List UInt8):Nat:=(cuB (psD0 L)).length
def psX (L:List UInt8):Int:=if 0≤psV L then exX (psE L)else 0
def psOk (L:List UInt8):Bool:=(if 0≤psV L then exO (psE L)else !hexP L)&&dgO (psb L) (psD L)
theorem yS1 {c:Nat} {b:Int} (h:isDg c b=true):c<128:=by
 unfold isDg at h;simp only[Bool.or_eq_true,kB9,decide_eq_true_eq] at h;omega
theorem zP0 (A B:List UInt8):asc (A++B)=(asc A&&asc B):=by unfold asc;rw[List.all_append]
theorem xQ7 {b:Int} {D:List UInt8} (h:dgO b D=true):asc D=true:=by
 unfold dgO at h;rw[kB9] at h;unfold qD6 at h;unfold asc;rw[List.all_eq_true] at h ⊢;intro x hx;exact kF2 (yS1 (h.1 x hx))
theorem xA4 {L:List UInt8} {c:UInt8} {i:Nat} (h:Lib.indexByte L c=(i:Int)):∃ t,L=L.take i++c :: t∧t=L.drop (i+1):=by
 induction L generalizing i with
 | nil=>exact absurd h (by show ¬ (-1:Int)=i;omega)
 | cons b l ih =>
  unfold Lib.indexByte at h;by_cases Y:(b==c)=true
  ·rw[kU6 Y] at h;obtain rfl:i=0:=ω;obtain rfl:b=c:=eq_of_beq Y;exact⟨l,rfl,rfl⟩
  ·rw[kU5 Y] at h;rcases ixbD l c with u|⟨k,u,V⟩
   ·rw[u] at h;exact absurd h (by show ¬ (-1:Int)=i;omega)
   ·rw[u,kU5 (by rw[beq_iff_eq];omega)] at h
    obtain rfl:i=k+1:=ω;obtain⟨t,J,e2⟩:=ih u;refine⟨t,?_,e2⟩
    rw[List.take_succ_cons,kH0,←J]
theorem xB6 (T:List UInt8):(Lib.indexByte T 46 = -1∧cuA T=T∧cuB T = [])∨(T=cuA T++46 :: cuB T):=by
 rcases ixbD T 46 with h|⟨i,h,Y⟩
 ·refine .inl ⟨h,?_,?_⟩
  ·unfold cuA;rw[h,kU6 δ]
  ·unfold cuB;rw[h,kU6 δ]
 ·obtain⟨t,u,e2⟩:=xA4 h;refine .inr ?_;have a:cuA T=T.take i:=by unfold cuA;rw[h,kU5 ω,kN9]
  have b:cuB T=T.drop (i+1):=by unfold cuB;rw[h,kU5 ω,kN9]
  rw[a,b,←e2];exact u
theorem yF0 {b:Int} {T:List UInt8} (h:dgO b (cuA T++cuB T)=true):asc T=true:=by
 have u:=xQ7 h;rw[zP0,kB9] at u;rcases xB6 T with ⟨_,Y,e2⟩|e
 ·rw[Y] at u;exact u.1
 ·rw[e,zP0,u.1,Bool.true_and];show(decide ((46:UInt8).toNat<128)&&asc (cuB T))=true
  rw[u.2];rfl
theorem kJ9 {E:List UInt8} (h:exO E=true):asc E=true:=by
 have u:=xQ7 h;unfold csD at u;by_cases Y:E.head?=some 45∨E.head?=some 43
 ·rw[kU6 Y] at u;cases E with
  | nil=>rfl
  | cons a t =>
   have J:a=45∨a=43:=by simpa using Y
   show(decide (a.toNat<128)&&asc t)=true
   have V:asc t=true:=u;rw[V];rcases J with rfl|rfl <;> rfl
 ·rw[kU5 Y] at u;exact u
theorem kJ8 {b:Int} {S:List UInt8} {i:Nat} {c:UInt8} (hi:S[i]?=some c) (u:c.toNat<128) (J:exO (S.drop (i+1))=true) (Y:dgO b (cuA (S.take i)++cuB (S.take i))=true):asc S=true:=by
 have V:=(List.getElem?_eq_some_iff.1 hi).1;have e:S=S.take i++c :: S.drop (i+1):=by
  rw[←(List.getElem?_eq_some_iff.1 hi).2,List.getElem_cons_drop,List.take_append_drop]
 rw[e,zP0,yF0 Y,Bool.true_and];show(decide (c.toNat<128)&&asc (S.drop (i+1)))=true
 rw[kJ9 J,kF2 u];rfl
theorem zB2 {L:List UInt8} {c:UInt8} (h:(psM L).contains c=true):c.toNat<128:=by
 unfold psM at h;split at h
 ·have:c=112∨c=80:=by simpa using h
  rcases this with rfl|rfl <;> decide
 ·have:c=101∨c=69:=by simpa using h
  rcases this with rfl|rfl <;> decide
def spP (hex:Bool) (S:List UInt8) (b:Int) (v b':Int) (D:List UInt8) (h x:Int) (ok:Bool):Prop :=
 (∃ i,i<S.length∧v=(i:Int)∧b'=b∧D=cuA (S.take i)++cuB (S.take i)∧h=(cuB (S.take i)).length∧x=exX (S.drop (i+1))∧ok=(exO (S.drop (i+1))&&dgO b D))∨(v = -1∧hex=true∧ok=false)∨(v = -1∧hex=false∧b'=b∧D=cuA S++cuB S∧h=(cuB S).length∧x=0∧ok=dgO b D)
theorem xS6 {L D:List UInt8} {T h x:Int} {F:Bool} (W:spP (hexP L) (psS L) (psb L) (psV L) T D h x F):F=psOk L∧(psOk L=true→T=psb L∧D=psD L∧h=psH L∧x=psX L):=by
 unfold psOk psD psH psX psD0 psE;rcases W with ⟨i,hi,Y,e2,u,J,H,V⟩|⟨Y,e2,u⟩|⟨Y,e2,u,J,H,V,C⟩
 ·rw[Y,kU6 ω,kU6 ω,kU6 ω,kN9];exact⟨by rw[V,u],fun _=>⟨e2,u,J,H⟩⟩
 ·rw[Y,kU5 δ,e2,u];exact⟨rfl,fun h=>by cases h⟩
 ·rw[Y,kU5 δ,kU5 δ,kU5 δ,e2];exact⟨by rw[C,J];rfl,fun _=>⟨u,J,H,V⟩⟩
theorem yQ1 {L D:List UInt8} {v b' h x:Int} (J:v = -1∨∃ i,i<(psS L).length∧v=(i:Int)∧∃ c,(psS L)[i]?=some c∧(psM L).contains c=true) (W:spP (hexP L) (psS L) (psb L) v b' D h x true):asc (psS L)=true:=by
 rcases W with ⟨i,hi,T,e2,Y,F,e5,H⟩|⟨T,e2,Y⟩|⟨T,e2,Y,F,e5,H,V⟩
 ·rcases J with h1|⟨j,hj,ej,c,I,C⟩
  ·omega
  ·obtain rfl:j=i:=ω;have u:=H.symm;rw[kB9,Y] at u;exact kJ8 I (zB2 C) u.1 u.2
 ·cases Y
 ·rw[F] at V;exact yF0 V.symm
theorem xZ1 (L:List UInt8) (w:World) (hL:L.length≤1048576):Ca 55 #[.string ⟨L.toArray⟩] w fun r w'=>∃ (F:Int) (D:List UInt8) (h x:Int),r=.returned (.tuple #[.agg #[iV F,.string ⟨D.toArray⟩,iV h,iV x],.bool (psOk L)])∧(psOk L=true→F=psb L∧D=psD L∧h=psH L∧x=psX L)∧Bw w w':=by
 have qY:(psS L).length≤L.length:=by unfold psS;split <;> (try rw[List.length_drop]) <;> omega
 obtain⟨J,Y,I,C,T⟩:∃ J Y:UInt8,psM L = [J,Y]∧J=(if hexP L then 112 else 101)∧Y=(if hexP L then 80 else 69):=by
  unfold psM;split
  ·exact⟨_,_,rfl,rfl,rfl⟩
  ·exact⟨_,_,rfl,rfl,rfl⟩
 have h0:J.toNat<128:=zB2 (L:=L) (by rw[I];simp)
 have H:Y.toNat<128:=zB2 (L:=L) (by rw[I];simp)
 have hp:hexP L=true→2≤L.length:=by
  intro h;unfold hexP Lib.hasPrefix at h;rw[Bool.or_eq_true] at h;rcases h with h|h
  ·have:=(List.isPrefixOf_iff_prefix.1 h).length_le;simpa using this
  ·have:=(List.isPrefixOf_iff_prefix.1 h).length_le;simpa using this
 refine(yW6 L (psS L) (Lib.hasPrefix L [48,120]) (Lib.hasPrefix L [48,88]) (hexP L) (psb L) J Y (spP (hexP L) (psS L) (psb L)) exX exO cuA cuB (dgO (psb L)) w hL rfl rfl rfl C T hp (fun W=>Tryz.strings_HasPrefix ⟨L.toArray⟩ ⟨#[48,120]⟩ W) (fun W=>Tryz.strings_HasPrefix ⟨L.toArray⟩ ⟨#[48,88]⟩ W) (fun W=>Dany _ J Y h0 H W ω) (fun W i hi=>yW9 _ W (by rw[List.length_drop];omega)) (fun W D hD=>Dcut D W ω) kZ8 (fun W D hD=>zZ1 D _ W ω) (fun i hi=>.inl ⟨i,hi,rfl,rfl,rfl,rfl,rfl,rfl⟩) (fun h=>.inr (.inl ⟨rfl,h,rfl⟩)) (fun h=>.inr (.inr ⟨rfl,h,rfl,rfl,rfl,rfl,rfl⟩))).mono ?_
 rintro r w' ⟨v,F,D,h,x,ok,rfl,u,hv,hb⟩;rw[←I] at u;by_cases ha:asc (psS L)=true∨8<(psS L).length
 ·have e:v=psV L:=u.1 ha;subst e;obtain⟨e1,e2⟩:=xS6 hv;exact⟨F,D,h,x,by rw[e1],e2,hb⟩
 ·have hn:asc (psS L)≠true:=fun h=>ha (.inl h);have hok:ok=false:=by
   cases ok
   ·rfl
   ·exact absurd (yQ1 u.2 hv) hn
  have V:psOk L=false:=by
   cases h9:psOk L
   ·rfl
   ·exfalso;have hV:spP (hexP L) (psS L) (psb L) (psV L) (psb L) (psD L) (psH L) (psX L) (psOk L):=by
     unfold psOk psD psH psX psD0 psE;rcases qB5 (psS L) (psM L)with H|⟨i,H,h2,h3⟩
     ·have qZ:psV L = -1:=H;rw[qZ,kU5 δ,kU5 δ,kU5 δ];cases hx:hexP L
      ·exact .inr (.inr ⟨rfl,rfl,rfl,rfl,rfl,rfl,rfl⟩)
      ·exact .inr (.inl ⟨rfl,rfl,rfl⟩)
     ·have qQ:psV L=(i:Int):=h2;rw[qQ,kU6 ω,kU6 ω,kU6 ω,kN9];exact .inl ⟨i,H,rfl,rfl,rfl,rfl,rfl,rfl⟩
    rw[h9] at hV;exact hn (yQ1 (qB5 _ _) hV)
  exact⟨F,D,h,x,by rw[hok,V],fun h=>absurd h (by rw[V];decide),hb⟩
theorem qU8 (a:Int) (p d:Nat):un a p=un (a*((2^d:Nat):Int)) (p+d):=by
 refine zF1 (K:=p+d) ω ?_ ?_
 ·omega
 ·rw[Nat.sub_self,kN7];have u:vz (p+d) (decide (a<0)) a.natAbs (-(p:Int))=a*((2^d:Nat):Int):=by
   unfold vz;rw[zO9,show(-(p:Int)+((p+d:Nat):Int)).toNat=d by omega]
  rw[u];simp
theorem yB1 (m:Int) (w:World):Ca 51 #[iV m] w fun r w'=>r=.returned (.bool (decide (1≤m∧m≤3)))∧w'=w:=by
 by_cases h:1≤m∧m≤3
 ·rw[kF2 h];rcases(by omega:m=1∨m=2∨m=3)with rfl|rfl|rfl
  all_goals
   go_enter Tryz.func51,Tryz.ntmps51
   go_wp2
   go_ret;exact⟨rfl,rfl⟩
 ·rw[kF1 h];have J:(m==1)=false:=by rw[kN2];omega
  have Y:(m==2)=false:=by rw[kN2];omega
  have u:(m==3)=false:=by rw[kN2];omega
  clear h
  go_enter Tryz.func51,Tryz.ntmps51
  go_wp2
  go_ret;exact⟨rfl,rfl⟩
theorem klen {n:Nat} (h:n≤7500):KLen n:=fun W=>c156 n ω W
theorem qE5 {Z:Int} {p b:Nat} (h:Z.natAbs<2^b) (H:b≤60000) (V:p≤60000) {W:World} {X:Value} (F:PN W X (un Z p)) :
  Ca 89 #[X] W (Rq W (iV (if Z=0 then 0 else if Z<0 then -1 else 1))):=by
 have k:=psign (qH2 h H V) F;have e:sgI (un Z p).1 (dlen (un Z p).2.1)=(if Z=0 then 0 else if Z<0 then -1 else 1):=by
  unfold sgI;have J:=(qU2 (Z:=Z) (p:=p)).2;by_cases u:Z=0
  ·rw[kU6 u,kU6 (qQ8.2 (J.2 u))]
  ·rw[kU5 u,kU5 (fun h=>u (J.1 (qQ8.1 h)))];have D:(un Z p).1=decide (Z<0):=by unfold un cn;rw[kU5 (show ¬ Z.natAbs=0 by omega)]
   rw[D];by_cases Y:Z<0
   ·rw[kU6 Y,kU6 (kF2 Y)]
   ·rw[kU5 Y,kU5 (by simpa using Y)]
 rw[e] at k;exact k
theorem yS0 {c:Nat} {b:Nat} (J:b=10∨b=16) (Y:c<256) (h:isDg c (b:Int)=true):dgB c<b:=by
 have u:∀ c:Fin 256,(isDg c.val 10=true→dgB c.val<10)∧(isDg c.val 16=true→dgB c.val<16):=by decide +kernel
 have:=u ⟨c,Y⟩
 rcases J with rfl|rfl
 ·exact this.1 h
 ·exact this.2 h
theorem yO5 {b:Nat} {D:List UInt8} (Y:b=10∨b=16) (h:qD6 D (b:Int)=true):∀ j,j<D.length→dgB (bL D j)<b:=fun j u=>yS0 Y (yL2 D j) ((qI5 _ _).1 h j u)
theorem xC9 (n:Nat):16^n=2^(4*n):=by rw[Nat.pow_mul]
theorem xF1 {b:Nat} {D:List UInt8} (u:b=10∨b=16) (h:qD6 D (b:Int)=true) (k:Nat) (Y:k≤D.length):dvP b D k<2^(4*k):=by
 have H:dvP b D k<b^k:=zU5 fun j J=>yO5 u h j ω;have V:b^k≤16^k:=Nat.pow_le_pow_left (by rcases u with rfl|rfl <;> omega) k
 rw[←xC9];omega
theorem zM6 {b n:Nat} (u:b=10∨b=16):b^n<2^(4*n+1):=by
 have Y:b^n≤16^n:=Nat.pow_le_pow_left (by rcases u with rfl|rfl <;> omega) n
 rw[xC9] at Y;rw[kN5];have:0<2^(4*n):=kH1 δ
 omega
theorem xQ9 {b:Nat} {D:List UInt8} {h e:Int} {w:World} (hT:Tab32 w) (J:b=10∨b=16) (hd:qD6 D (b:Int)=true) (hl:D.length≤1100) :
  Ca 121 #[.agg #[iV (b:Int),.string ⟨D.toArray⟩,iV h,iV e]] w fun r w'=>OutA w (un ((dvP b D D.length:Nat):Int) 0) r w':=by
 have u:∀ (P:List UInt8) (k:Nat),P=(D.drop k).take (min 15 (D.length - k))→k<D.length→P.length≤15∧0<P.length∧(∀ j,j<P.length→dgB (bL P j)<b):=by
  intro P k H L;have T:P.length=min 15 (D.length - k):=by rw[H,List.length_take,List.length_drop];omega
  refine⟨ω,ω,fun j hj=>?_⟩
  have e:bL P j=bL D (k+j):=by
   unfold bL;rw[H,List.getElem?_take_of_lt ω,List.getElem?_drop]
  rw[e];exact yO5 J hd _ ω
 have F:∀ (P:List UInt8) (k:Nat),P=(D.drop k).take (min 15 (D.length - k))→k<D.length→dvP b P P.length<18446744073709551616:=by
  intro P k H L;obtain⟨a1,a2,a3⟩:=u P k H L;have I:=zU5 a3;have h2:b^P.length≤16^P.length:=Nat.pow_le_pow_left (by rcases J with rfl|rfl <;> omega) _
  have h3:16^P.length≤16^15:=kF4 δ a1;have h4:(16:Nat)^15<18446744073709551616:=by decide
  omega
 refine yW0 b D h e (fun k=>un ((dvP b D k:Nat):Int) 0) (fun n=>un ((b^n:Nat):Int) 0) (fun k=>un ((dvP b ((D.drop k).take (min 15 (D.length - k))) (min 15 (D.length - k)):Nat):Int) 0) (fun k n=>un ((dvP b D k*b^n:Nat):Int) 0) w (un_0 0) ω ?_ ?_ ?_ ?_ ?_
 ·intro W P k H L;obtain⟨a1,a2,a3⟩:=u P k H L;rcases J with rfl|rfl
  ·exact xM5 P W a1 a2 a3
  ·exact xM4 P W a1 a2 a3
 ·intro W n C hn;exact zL2 (hT.later C) (by rcases J with rfl|rfl <;> omega) (by rcases J with rfl|rfl <;> omega) ω (zM6 J) ω (fun V=>c156 n ω V)
 ·intro W X Y k n C hX hY qQ hn;have:=qV6 (k:=4*k) (l:=4*n+1) (nabs (xF1 J hd k ω)) (nabs (zM6 (n:=n) J)) ω ω (hT.later C) hX hY
  rw[←kN8] at this;exact this
 ·intro W P k H L C;have T:P.length=min 15 (D.length - k):=by rw[H,List.length_take,List.length_drop];omega
  have I:=yB0 (hT.later C) (F P k H L);show Calls _ _ _ _ fun r w'=>OutA W (un ((dvP b ((D.drop k).take (min 15 (D.length - k))) (min 15 (D.length - k)):Nat):Int) 0) r w'
  rw[←H,←T];exact I
 ·intro W X Y k n C hX hY hn L;have e:dvP b D (k+n)=dvP b D k*b^n+dvP b ((D.drop k).take (min 15 (D.length - k))) (min 15 (D.length - k)):=by
   rw[yV5,←hn,zT3 _ _ _ _ lR]
  obtain⟨q,hq⟩:∃ q:Nat,q=4500:=⟨_,rfl⟩;have b1:dvP b D k*b^n<2^q:=kF6 (xU7 (xF1 J hd k ω) (zM6 (n:=n) J)) (kF4 δ ω);have b2:dvP b ((D.drop k).take (min 15 (D.length - k))) (min 15 (D.length - k))<2^q:=by
   have I:=F _ k rfl L;rw[show((D.drop k).take (min 15 (D.length - k))).length=min 15 (D.length - k) by rw[List.length_take,List.length_drop];omega] at I
   exact kF6 I (kF8 (by decide:18446744073709551616≤2^64) (kF4 δ ω))
  have:=qM1 (paddN (p:=0) b1 b2 ω ω) (hT.later C) hX hY
  rw[←e] at this;exact this
def rK (b:Int) (h:Nat) (x:Int):Int:=if b=16 then x - 4*h else x - h
def rO (b:Int) (h:Nat) (x:Int):Nat:=if b=16 then 2^(rK b h x).toNat else tnO (rK b h x)
def rP (b:Int) (h:Nat) (x:Int):Nat:=if b=16 then(-(rK b h x)).toNat else 0
def rU (b:Int) (h:Nat) (x:Int):Nat:=if b=16 then 1 else tnU (rK b h x)
def rdFl (neg:Bool) (b:Int) (D:List UInt8) (h:Nat) (x m:Int):Nat :=
 if dvP b.toNat D D.length=0 then sig neg 0 else rtF (un ((if neg then -((dvP b.toNat D D.length:Nat):Int) else(dvP b.toNat D D.length:Nat))*(rO b h x:Nat)) (rP b h x)) (un ((rU b h x:Nat):Int) 0) m
theorem kV6 {k:Int} {w:World} (J:Tab32 w) (H : -20000≤k) (V:k≤20000) :
  Ca 179 #[iV k] w fun r w'=>qT3 w (un ((2^k.toNat:Nat):Int) (-k).toNat) (un ((1:Nat):Int) 0) r w':=by
 refine yW2 k _ _ w (fun W Y=>qM4 (n:=1) (J.later Y) ω) ?_;intro W X Y u;have e:un ((1:Nat):Int) 0=un ((2^k.toNat:Nat):Int) k.toNat:=by
  have:=qU8 1 0 k.toNat
  rw[Int.one_mul,kH6] at this;exact this
 rw[e] at u;exact qP3 (b:=k.toNat+1) (nabs (Nat.pow_lt_pow_right δ ω)) ω ω ω ω u
theorem kV7 {b:Int} {h:Nat} {x:Int} {d:ByteArray} {w:World} (Y:Tab32 w) (V:b=10∨b=16) (H:h≤1100) (hx : -6000≤x∧x≤6000) :
  Ca 124 #[.agg #[iV b,.string d,iV (h:Int),iV x]] w fun r w'=>qT3 w (un ((rO b h x:Nat):Int) (rP b h x)) (un ((rU b h x:Nat):Int) 0) r w':=by
 unfold rO rP rU;rcases V with rfl|rfl
 ·rw[kU5 δ,kU5 δ,kU5 δ];refine yW8 10 h x d _ _ w δ ω ω ?_;intro W u;have e:rK 10 h x=x - h:=by unfold rK;rw[kU5 δ]
  rw[e];exact zL0 (Y.later u) ω ω (fun n J=>klen J)
 ·rw[kU6 rfl,kU6 rfl,kU6 rfl];refine yW7 16 h x d _ _ w rfl ω ω ?_;intro W u;have e:rK 16 h x=x - 4*h:=by unfold rK;rw[kU6 rfl]
  rw[e];exact kV6 (Y.later u) ω ω
def dQ:Nat:=25000
theorem zC5:dQ=25000:=rfl
theorem rO_lt {b:Int} {h:Nat} {x:Int} (Y:b=10∨b=16) (J:h≤1100) (hx : -6000≤x∧x≤6000):rO b h x<2^dQ∧rU b h x<2^dQ∧rP b h x≤20000∧0<rU b h x∧0<rO b h x:=by
 unfold rO rU rP;rcases Y with rfl|rfl
 ·rw[kU5 δ,kU5 δ,kU5 δ];have e:rK 10 h x=x - h:=by unfold rK;rw[kU5 δ]
  rw[e];have u:(2:Nat)^dB≤2^dQ:=kF4 δ (by rw[zC5];exact qA7)
  refine⟨kF6 (zJ3 ω) u,kF6 (zJ3 ω) u,ω,kH1 δ,kH1 δ⟩
 ·rw[kU6 rfl,kU6 rfl,kU6 rfl];have e:rK 16 h x=x - 4*h:=by unfold rK;rw[kU6 rfl]
  rw[e];exact⟨Nat.pow_lt_pow_right δ (by rw[zC5];omega),Nat.one_lt_two_pow (by rw[zC5];omega),ω,ω,kH1 δ⟩
theorem zL1 {b:Nat} {D:List UInt8} {h:Nat} {x m:Int} {neg:Bool} {w:World} (F:Tab32 w) (hb:b=10∨b=16) (I:qD6 D (b:Int)=true) (hl:D.length≤1100) (hh:h≤1100) (hx : -6000≤x∧x≤6000) (hm:1≤m∧m≤3) :
  Ca 56 #[.agg #[iV (b:Int),.string ⟨D.toArray⟩,iV (h:Int),iV x],.bool neg,iV m] w (Rq w (.float .f64 (rdFl neg b D h x m))):=by
 obtain⟨q,hq⟩:∃ q:Nat,q=4400:=⟨_,rfl⟩;have hN:dvP b D D.length<2^q:=kF6 (xF1 hb I D.length lR) (kF4 δ ω);have H:(b:Int)=10∨(b:Int)=16:=ω;obtain⟨o1,o2,o3,o4,o5⟩:=rO_lt H hh hx;unfold rdFl;rw[kN9];generalize T:dvP b D D.length=N at *;by_cases h0:N=0
 ·rw[kU6 h0];refine zE9 _ _ _ _ _ _ (un ((N:Nat):Int) 0) _ w ?_ ?_ ?_
  ·intro W u;have:=xQ9 (h:=(h:Int)) (e:=x) (F.later u) hb I hl
   rw[T] at this;exact this
  ·intro W X u J;have:=qE5 (b:=q) (nabs hN) ω ω J
   rw[kU6 ω] at this;exact this
  ·intro W u;have:=Ie.c24 neg 0 0 m ω W
   rw[yY6 hm] at this;refine this.mono ?_;rintro r w' ⟨rfl,rfl⟩;exact⟨rfl,kH9 _ _⟩
 ·rw[kU5 h0];generalize hO:rO (b:Int) h x=O at *;generalize hU:rU (b:Int) h x=U at *;generalize hP:rP (b:Int) h x=P at *;have hz:(if neg=true then -(N:Int) else(N:Int)).natAbs<2^q:=by split <;> omega
  have L:(if neg=true then -(N:Int) else(N:Int))≠0:=by split <;> omega
  refine zE8 _ _ _ _ 1 0 _ _ (un ((N:Nat):Int) 0) (un (if neg=true then -(N:Int) else(N:Int)) 0) (un ((O:Nat):Int) P) (un ((U:Nat):Int) 0) (un ((if neg=true then -(N:Int) else(N:Int))*((O:Nat):Int)) P) _ w (by decide:¬ (1:Int)=0) ?_ ?_ ?_ ?_ ?_ ?_ ?_
  ·intro W u;have:=xQ9 (h:=(h:Int)) (e:=x) (F.later u) hb I hl
   rw[T] at this;exact this
  ·intro W X u J;have:=qE5 (b:=q) (nabs hN) ω ω J
   rw[kU5 ω,kU5 ω] at this;exact this
  ·intro C W X u J;have:=xJ8 (b:=q) (nabs hN) ω J
   rw[kU6 C];exact this
  ·intro C;show un (if neg=true then -(N:Int) else(N:Int)) 0=un ((N:Nat):Int) 0
   rw[C];rfl
  ·intro W u;have:=kV7 (d:=⟨D.toArray⟩) (F.later u) H hh hx
   rw[hO,hP,hU] at this;exact this
  ·intro W X Y u J hY;have:=qV6 (k:=q) (l:=dQ) (p:=0) (q:=P) hz (nabs o1) (by rw[zC5];omega) ω (F.later u) J hY
   rw[kH6] at this;exact this
  ·intro W X Y u J hY;have V:=qM0 hz (nabs o1);refine xC7 (F.later u) (qH2 V (by rw[zC5];omega) ω) (qH2 (nabs o2) (by rw[zC5];omega) ω) J hY ?_ ?_ hm
   ·rw[Ne,(qU2 (p:=P)).2];exact Int.mul_ne_zero L ω
   ·rw[Ne,(qU2 (p:=0)).2];omega
theorem xJ7 {A B p k:Nat} (qH:0<A) (h1:A<2^k) (h2:B<2^k) (h0:0<B) (hk:k≤60000) (hp:p≤60000) {W:World} {X Y:Value} (hT:Tab32 W) (hX:PN W X (un (-(A:Int)) p)) (hY:PN W Y (un (B:Int) p)) :
  Ca 90 #[X,Y,iV 0] W fun r w'=>∃ s ao n cap e,r=.returned (.tuple #[.agg (Nu s ao n cap e),.bool (decide (A % B=0)),iV 0])∧PN w' (.agg (Nu s ao n cap e)) (un (-((if A % B=0 then A / B else A / B+1:Nat):Int)) 0)∧Bw W w':=by
 have a1:(-((A:Nat):Int)).natAbs<2^k:=by rw[Int.natAbs_neg,kN1];exact h1
 have b1:((B:Nat):Int).natAbs<2^k:=by rw[kN1];exact h2
 have C:=qH2 (p:=p) a1 hk hp;have L:=qH2 (p:=p) b1 hk hp;have f1:=C.facts;have I:=L.facts;have V:=qT5 (K:=p) (p:=p) (-(A:Int)) lR;have J:=qT5 (K:=p) (p:=p) (B:Int) lR;have g1:=(un_e (p:=p) a1).2.2;have g2:=(un_e (p:=p) b1).2.2;have n1:(un (-(A:Int)) p).1=true:=by unfold un cn;rw[kU5 (show ¬ (-(A:Int)).natAbs=0 by omega)];exact kF2 ω
 have n2:=zI8 (A:=B) (p:=p);have T:(un (B:Int) p).2.1≠0:=fun h=>by have:=qU2.2.1 h;omega
 obtain⟨ua,uc,rfl,i1⟩:=hX;obtain⟨va,vc,rfl,i2⟩:=hY;obtain⟨t1,qY⟩:∃ t,t=un (-(A:Int)) p:=⟨_,rfl⟩;obtain⟨t2,qZ⟩:∃ t,t=un (B:Int) p:=⟨_,rfl⟩;rw[←qY] at C f1 V g1 n1 i1 ⊢;rw[←qZ] at L I J g2 n2 T i2 ⊢;obtain⟨s1,x,ea⟩:=t1;obtain⟨s2,y,eb⟩:=t2;simp only at C f1 V g1 n1 i1 L I J g2 n2 T i2 ⊢
 subst n1;subst n2;have eA:x*2^(ea+(p:Int)).toNat=A:=by
  unfold vz sv at V;rw[Nat.sub_self,kN7] at V;simp only[if_true,Int.mul_one] at V;have:((x*2^(ea+(p:Int)).toNat:Nat):Int)=(A:Int):=by
   have qQ : -((x:Int))*((2^(ea+(p:Int)).toNat:Nat):Int) = -(A:Int):=by simpa using V
   rw[Int.neg_mul] at qQ;rw[kN8];omega
  exact Int.ofNat.inj this
 have eB:y*2^(eb+(p:Int)).toNat=B:=by
  unfold vz sv at J;rw[Nat.sub_self,kN7] at J;simp only[Bool.false_eq_true,if_false,Int.mul_one] at J;have:((y*2^(eb+(p:Int)).toNat:Nat):Int)=(B:Int):=by
   rw[kN8];simpa using J
  exact Int.ofNat.inj this
 obtain⟨P,hP⟩:∃ P,x*2^(ea+0 - min (ea+0) eb).toNat=P:=⟨_,rfl⟩;obtain⟨Q,hQ⟩:∃ Q,y*2^(eb - min (ea+0) eb).toNat=Q:=⟨_,rfl⟩;have qV:0<Q:=by rw[←hQ];exact Nat.mul_pos (kB0 T) (kF3 _)
 have qJ:P*B=A*Q:=by
  rw[←hP,←hQ,←eA,←eB];have e1:(ea+0 - min (ea+0) eb).toNat+(eb+(p:Int)).toNat=(ea+(p:Int)).toNat+(eb - min (ea+0) eb).toNat:=ω;generalize (ea+0 - min (ea+0) eb).toNat=j1 at *;generalize (eb+(p:Int)).toNat=j2 at *;generalize (ea+(p:Int)).toNat=j3 at *;generalize (eb - min (ea+0) eb).toNat=j4 at *;have e2:(2:Nat)^j1*2^j2=2^j3*2^j4:=by rw[←kN3,←kN3,e1]
  calc x*2^j1*(y*2^j2)=x*y*(2^j1*2^j2):=by ac_rfl
   _=x*y*(2^j3*2^j4):=by rw[e2]
   _=x*2^j3*(y*2^j4):=by ac_rfl
 obtain⟨d1,d2⟩:=zG0 qV h0 qJ;refine(c44 (na:=true) (nb:=false) (place:=0) i1 i2 hT T ω ω C L ⟨f1.2.1,f1.2.2.1⟩ ⟨I.2.1,I.2.2.1⟩ ω P Q hP hQ).mono ?_
 rintro r w' ⟨N,rfl,hN,hb⟩;have hz:(if((true:Bool) != false) && !(decide (P % Q=0))then P / Q+1 else P / Q)=(if A % B=0 then A / B else A / B+1):=by
  rw[←d1];by_cases h:A % B=0
  ·rw[kU6 h,kF2 (d2.2 h)];rfl
  ·rw[kU5 h,kF1 (fun g=>h (d2.1 g))];rfl
 have F:decide (P % Q=0)=decide (A % B=0):=by
  by_cases h:A % B=0
  ·rw[kF2 h,kF2 (d2.2 h)]
  ·rw[kF1 h,kF1 (fun g=>h (d2.1 g))]
 obtain⟨R,D⟩:=eE (if A % B=0 then A / B else A / B+1);have qG:0<R:=by
  rw[D];by_cases h:A % B=0
  ·rw[kU6 h];have:=Nat.div_add_mod A B
   rw[h] at this;apply kB0
   intro h9;rw[h9,Nat.mul_zero] at this;omega
  ·rw[kU5 h];exact Nat.succ_pos _
 have qU:R≤A:=by
  have qK:=kF9 A B;rw[D];by_cases h:A % B=0
  ·rw[kU6 h];exact qK
  ·rw[kU5 h];have h9:=Nat.div_add_mod A B;have h8:A / B≤B*(A / B):=Nat.le_mul_of_pos_left _ h0;omega
 rw[hz,←D] at hN;rw[←D];have qX:(-((R:Nat):Int)).natAbs<2^k:=by rw[Int.natAbs_neg,kN1];omega
 have H:okR ((true:Bool) != false) R (-(0:Int))=true:=by
  have:=zS9 (p:=0) qX hk ω
  rw[kF2 ω,Int.natAbs_neg,kN1] at this;exact this
 rw[hz,←D,H,F];have u:=hN.pn;have he:cn ((true:Bool) != false) R (-(0:Int))=un (-((R:Nat):Int)) 0:=by
  unfold un;rw[kF2 ω,Int.natAbs_neg,kN1];rfl
 rw[he] at u;obtain⟨s',ao,n,cap,e',rfl⟩:=u.shape;exact⟨s',ao,n,cap,e',by rw[Bool.and_true];rfl,u,hb⟩
theorem xC8 {Z:Int} {B p k:Nat} (V:Z.natAbs<2^k) (h2:B<2^k) (L:0<B) (hk:k≤60000) (hp:p≤60000) {W:World} {X Y:Value} (hT:Tab32 W) (hX:PN W X (un Z p)) (hY:PN W Y (un (B:Int) p)) :
  Ca 90 #[X,Y,iV 0] W fun r w'=>∃ A,r=.returned (.tuple #[A,.bool (decide (Z % (B:Int)=0)),iV 0])∧PN w' A (un (Z / (B:Int)) 0)∧Bw W w':=by
 have D:(0:Int)<(B:Int):=ω;by_cases hz:Z<0
 ·obtain⟨A,T⟩:∃ A:Nat,Z = -(A:Int):=⟨Z.natAbs,ω⟩;subst T;rw[Int.natAbs_neg,kN1] at V;refine(xJ7 ω V h2 L hk hp hT hX hY).mono ?_
  rintro r w' ⟨s,ao,n,cap,e,rfl,J,F⟩;have d1:=Nat.div_add_mod A B;have d2:=kB3 A L;have C:((B*(A / B):Nat):Int)+((A % B:Nat):Int)=(A:Int):=by rw[←Int.natCast_add,d1]
  rw[kN8] at C;obtain⟨q,I⟩:∃ q:Nat,q=A / B:=⟨_,rfl⟩;obtain⟨c,H⟩:∃ c:Nat,c=A % B:=⟨_,rfl⟩;rw[←I,←H] at C;rw[←H] at d2;have u:(-(A:Int)) / (B:Int) = -((if A % B=0 then A / B else A / B+1:Nat):Int)∧((-(A:Int)) % (B:Int)=0↔A % B=0):=by
   rw[←I,←H];by_cases h:c=0
   ·rw[kU6 h];have:=(Int.ediv_emod_unique (a := -(A:Int)) (b:=(B:Int)) (r:=0) (q := -(q:Int)) D).2 ⟨by rw[h] at C;rw[Int.mul_neg];omega,ω,D⟩
    exact⟨this.1,by rw[this.2];simp[h]⟩
   ·rw[kU5 h];have:=(Int.ediv_emod_unique (a := -(A:Int)) (b:=(B:Int)) (r:=(B:Int) - (c:Int)) (q := -((q:Int)+1)) D).2 ⟨by rw[Int.mul_neg,Int.mul_add,Int.mul_one];omega,ω,ω⟩
    refine⟨by rw[this.1];push_cast;rfl,?_⟩
    rw[this.2];constructor
    ·intro h9;omega
    ·intro h9;exact absurd h9 h
  refine⟨_,?_,by rw[u.1];exact J,F⟩
  have:decide (A % B=0)=decide ((-(A:Int)) % (B:Int)=0):=by
   by_cases h:A % B=0
   ·rw[kF2 h,kF2 (u.2.2 h)]
   ·rw[kF1 h,kF1 (fun g=>h (u.2.1 g))]
  rw[this]
 ·obtain⟨A,T⟩:∃ A:Nat,Z=(A:Int):=⟨Z.natAbs,ω⟩;subst T;rw[kN1] at V;refine(yX8 V h2 L hk hp hT hX hY).mono ?_
  rintro r w' ⟨s,ao,n,cap,e,rfl,J,F⟩;refine⟨_,?_,by rw[←Int.natCast_ediv];exact J,F⟩
  have:decide (A % B=0)=decide ((A:Int) % (B:Int)=0):=by
   by_cases h:A % B=0
   ·rw[kF2 h,kF2 ω]
   ·rw[kF1 h,kF1 ω]
  rw[this]
def kP:Nat:=1074
theorem qN5:kP=1074:=rfl
theorem zL3 {Z:Int} {O U p k l:Nat} {W:World} {S X:Value} (hT:Tab32 W) (hS:Fv W S (un ((O:Nat):Int) 0) (un ((U:Nat):Int) 0)) (u:PN W X (un Z p)) (h1:Z.natAbs<2^k) (h2:O<2^l) (h3:U<2^l) (h0:0<U) (hk:k+l+p≤60000) :
  Ca 96 #[S,X] W fun r w'=>zG9 W (un (Z*(O:Int) / ((U*2^p:Nat):Int)) 0) (decide (Z*(O:Int) % ((U*2^p:Nat):Int)=0)) r w':=by
 obtain⟨s1,I,n1,T,e1,s2,C,n2,D,e2,rfl,p1,p2⟩:=hS;obtain⟨s3,L,n3,F,e3,rfl⟩:=u.shape;refine yC4 s1 I n1 T e1 s2 C n2 D e2 s3 L n3 F e3 _ _ _ (un (Z*(O:Int)) p) _ _ W p1 p2 u ?_ ?_
 ·intro V X Y H u J;have:=qV6 (p:=p) (q:=0) h1 (nabs h2) ω ω (hT.later H) u J
  exact this
 ·intro V X Y H u J;have e:un ((U:Nat):Int) 0=un ((U*2^p:Nat):Int) p:=by
   rw[qU8 _ 0 p,←kN8,kH6]
  rw[e] at J;have hm:=qM6 p (qM0 h1 (nabs h2));have hu:U*2^p<2^(k+l+p):=by
   have h9:U*2^p<2^l*2^p:=kM4 h3 (kF3 _);rw[←kN3] at h9;exact kF6 h9 (kF4 δ ω)
  exact xC8 hm hu (Nat.mul_pos h0 (kF3 _)) hk ω (hT.later H) u J
def sZ (a:Nat):Int:=if neg a then -((fU a:Nat):Int) else((fU a:Nat):Int)
theorem tF_sZ {a:Nat} (u : -1074≤Ie.lp a):tF a=un (sZ a) kP:=by
 unfold tF kP;refine zF1 (K:=1074) lR ω ?_;unfold sZ vz sv fU;rw[Nat.sub_self,kN7,kN8];cases neg a
 ·simp
 ·simp[Int.neg_mul]
theorem yA1 (a:Nat):(sZ a).natAbs=fU a:=by unfold sZ;split <;> omega
theorem qP4 (a:Nat):(sZ a).natAbs<2^bU:=by rw[yA1];exact qI9 a
theorem zZ0 {a:Nat} {w:World} (H:Tab32 w) (J:Ie.Tab w) (V:a<18446744073709551616) (u:mag a<9218868437227405312):Ca 32 #[.float .f64 a] w fun r w'=>OutA w (un (sZ a) kP) r w':=by
 refine yC5 a _ w fun W Y=>?_;have:=ofN a V u W (H.later Y) (fun i hi=>(Y.cell (World.block_lt_of_cell? _ _ (J i hi))).trans (J i hi))
 rw[tF_sZ (qW6 a u).2.1] at this;exact this
theorem xD1 (Z:Int) (p:Nat):un ((Z.natAbs:Nat):Int) p=(false,(un Z p).2.1,(un Z p).2.2):=by
 unfold un cn;rw[kN1,kF1 ω];by_cases h:Z.natAbs=0
 ·rw[kU6 h,kU6 h]
 ·rw[kU5 h,kU5 h]
theorem xV2 {Z:Int} {b:Nat} (h:Z.natAbs<2^b) (D:b≤60000) {W:World} {X:Value} (T:PN W X (un Z 0)):Ca 61 #[X] W fun r w'=>OutA W (un ((Z.natAbs:Nat):Int) 0) r w':=by
 obtain⟨ao,cap,rfl,C⟩:=T;have J:=qH2 (p:=0) h D ω;have f:=J.facts;refine(kV3 C ω J).mono ?_
 rintro r w' ⟨v,rfl,L,I⟩;obtain⟨Y,u,rfl,F,H,V⟩:=L.is;rw[xD1];exact⟨_,_,_,_,_,rfl,⟨Y,u,rfl,⟨Y,u,rfl,F,H,V⟩⟩,I⟩
def kP1:Nat:=1073
theorem yI8:(kP:Int) - 1=kP1:=rfl
def unF (Z:Int) (O U:Nat):Int:=Z*(O:Int) / ((U*2^kP:Nat):Int)
def unX (Z:Int) (O U:Nat):Bool:=decide (Z*(O:Int) % ((U*2^kP:Nat):Int)=0)
def unA (Z:Int) (O U:Nat):Bool:=decide ((unF Z O U*2+1)*(U:Int)*((2^kP1:Nat):Int)<Z*(O:Int))||(decide ((unF Z O U*2+1)*(U:Int)*((2^kP1:Nat):Int)=Z*(O:Int))&&decide (unF Z O U % 2=1))
def unP (Z:Int) (O U:Nat) (m:Int):Bool := !unX Z O U&&(decide (m=3)||decide (m=2)&&unA Z O U)
def unR (Z:Int) (O U:Nat) (m:Int):Int:=if unP Z O U m then unF Z O U+1 else unF Z O U
theorem xD {L:Int} (Y:Int) (V:Y=(un L 0).2.2):(decide (Y=0)&&decide ((if L=0 then(0:Int)else if L<0 then -1 else 1)≠0))=decide (L % 2=1):=by
 subst V;by_cases u:L=0
 ·subst u;rfl
 ·have H:(if L=0 then(0:Int)else if L<0 then -1 else 1)≠0:=by rw[kU5 u];split <;> decide
  rw[kF2 H,Bool.and_true];have e2:(un L 0).2.2=(tz L.natAbs:Int):=by
   unfold un cn;rw[kU5 ω];simp
  rw[e2];by_cases J:L.natAbs % 2=1
  ·rw[qC9 J,kF2 (by rfl),kF2 ω]
  ·rw[zZ4 ω ω,kF1 ω,kF1 ω]
theorem zD0 {Z:Int} {O U k l:Nat} (J:Z.natAbs<2^k) (Y:O<2^l) (V:0<U):(unF Z O U).natAbs<2^(k+l+1):=by
 have H:=qM0 J (nabs Y);have u:(0:Int)<((U*2^kP:Nat):Int):=by
  have:=Nat.mul_pos V (kF3 kP)
  omega
 unfold unF;generalize Z*(O:Int)=a at *;generalize ((U*2^kP:Nat):Int)=b at *;rw[kN5];have T:a / b≤a.natAbs:=by
  rcases Int.lt_or_le a 0 with h|h
  ·have:=Int.ediv_neg_of_neg_of_pos h u;omega
  ·have:=Int.ediv_le_self b h;omega
 have D : -(a.natAbs:Int)≤a / b:=by
  rcases Int.lt_or_le a 0 with h|h
  ·rw[Int.le_ediv_iff_mul_le u];have : -(a.natAbs:Int)=a:=ω;rw[this];have F:a*b≤a*1:=Int.mul_le_mul_of_nonpos_left ω ω;omega
  ·have:=Int.ediv_nonneg h (Int.le_of_lt u);omega
 omega
theorem kU2 {Z:Int} {O U k l:Nat} {W:World} {S X L:Value} (C:Tab32 W) (hS:Fv W S (un ((O:Nat):Int) 0) (un ((U:Nat):Int) 0)) (u:PN W X (un Z kP)) (hL:PN W L (un (unF Z O U) 0)) (I:Z.natAbs<2^k) (h2:O<2^l) (h3:U<2^l) (h0:0<U) (hk:k+l+l+2000≤60000) :
  Ca 97 #[S,X,L] W (Rq W (.bool (unA Z O U))):=by
 have hF:=zD0 (k:=k) (l:=l) (Z:=Z) I h2 h0;unfold unA;generalize qH:unF Z O U=F at *;obtain⟨s1,qG,n1,qK,e1,s2,qU,n2,qX,e2,rfl,p1,p2⟩:=hS;obtain⟨s3,qV,n3,qY,e3,rfl⟩:=u.shape;obtain⟨s4,qJ,n4,qZ,e4,rfl⟩:=hL.shape;have qQ:e4=(un F 0).2.2:=by
  obtain⟨ao,cap,h,-⟩:=hL;injection h with h;simp at h
  exact h.2.2
 have T:(F*2).natAbs<2^(k+l+2):=by rw[show k+l+2=(k+l+1)+1 by omega,kN5];omega
 have D:(F*2+1).natAbs<2^(k+l+3):=by rw[show k+l+3=(k+l+2)+1 by omega,kN5];omega
 refine yC7 s1 qG n1 qK e1 s2 qU n2 qX e2 s3 qV n3 qY e3 s4 qJ n4 qZ e4 _ _ _ (un Z kP1) _ (un (F*2) 0) (un 1 0) (un (F*2+1) 0) (un (Z*(O:Int)) kP1) (un ((F*2+1)*(U:Int)) 0) (cmpI (Z*(O:Int)) ((F*2+1)*(U:Int)*((2^kP1:Nat):Int))) (if F=0 then 0 else if F<0 then -1 else 1) _ W p1 p2 u hL ?_ ?_ ?_ ?_ ?_ ?_ ?_ ?_ ?_
 ·intro V X J u;have e:=qU8 F 0 1;rw[e] at u;exact qP3 (b:=k+l+2) T ω ω (q:=0) ω ω u
 ·intro V X J u;exact qP3 (b:=k) I ω (by rw[qN5];omega) (q:=kP1) (by unfold kP1;omega) yI8 u
 ·intro V J;exact qM4 (n:=1) (C.later J) ω
 ·intro V X Y J u H;exact qM1 (qE7 (p:=0) (k:=k+l+2) T (by have:1<2^(k+l+2):=Nat.one_lt_two_pow ω;omega) ω ω) (C.later J) u H
 ·intro V X Y J u H;exact qV6 (p:=kP1) (q:=0) I (nabs h2) ω (by unfold kP1;omega) (C.later J) u H
 ·intro V X Y J u H;exact qV6 (p:=0) (q:=0) D (nabs h3) ω ω (C.later J) u H
 ·intro V X Y J u H;have e:un ((F*2+1)*(U:Int)) 0=un ((F*2+1)*(U:Int)*((2^kP1:Nat):Int)) kP1:=by
   rw[qU8 _ 0 kP1,kH6]
  rw[e] at H;have g1:(Z*(O:Int)).natAbs<2^(k+l+l+1500):=kF6 (qM0 I (nabs h2)) (kF4 δ ω);have g2:((F*2+1)*(U:Int)*((2^kP1:Nat):Int)).natAbs<2^(k+l+l+1500):=by
   have:=qM0 (qM0 D (nabs h3)) (nabs (Nat.pow_lt_pow_right (a:=2) δ (Nat.lt_succ_self kP1)))
   exact kF6 this (kF4 δ (by unfold kP1;omega))
  exact xV1 g1 g2 ω (by unfold kP1;omega) u H
 ·intro V J u;exact qE5 (b:=k+l+1) hF ω ω u
 ·show(_∧_)∨(_∧_)∨(_∧_)
  rw[xD e4 qQ];generalize (F*2+1)*(U:Int)*((2^kP1:Nat):Int)=b;generalize Z*(O:Int)=a;unfold cmpI;by_cases c1:a<b
  ·rw[kU6 c1,kF1 ω,kF1 ω];exact .inr (.inr ⟨rfl,rfl⟩)
  ·rw[kU5 c1];by_cases c2:b<a
   ·rw[kU6 c2,kF2 c2];exact .inl ⟨rfl,rfl⟩
   ·rw[kU5 c2,kF1 c2,kF2 ω];exact .inr (.inl ⟨rfl,by simp⟩)
end Go.Proofs.YtfkaogdmlcdceaaGreatDoor
