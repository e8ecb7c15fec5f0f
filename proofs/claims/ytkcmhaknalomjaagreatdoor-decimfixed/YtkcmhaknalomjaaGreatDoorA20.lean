/- Own work: contracts of the program's functions, part 20: DSI DSJ DSK DSL DSM DSN DSO. -/
import Derived.Test.YtkcmhaknalomjaaGreatDoorA19
import Derived.Test.YtkcmhaknalomjaaGreatDoorA17
import Derived.Test.YtkcmhaknalomjaaGreatDoorA18
import Derived.Test.YtkcmhaknalomjaaGreatDoorA15

set_option maxHeartbeats 16000000
set_option maxRecDepth 200000
set_option linter.unusedVariables false
set_option linter.unusedSimpArgs false
namespace Go.Proofs.YtkcmhaknalomjaaGreatDoor
open Go Go.RowKit Go.Fl64
theorem yU6:pU 1074=kU:=rfl
theorem tn_p (n:Nat):tnO (n:Int)=10^n∧tnU (n:Int)=1:=by
 unfold tnO tnU;rw[xH6,show(-(n:Int)).toNat=0 by omega]
 exact⟨rfl,rfl⟩
theorem tn_n (n:Nat):tnO (-(n:Int))=(if n=0 then 1 else 1)∧tnU (-(n:Int))=10^n:=by
 unfold tnO tnU;rw[show(- -(n:Int)).toNat=n by omega,show(-(n:Int)).toNat=0 by omega]
 exact⟨by split <;> rfl,rfl⟩
theorem yW (n:Nat):tnO (-(n:Int))=1:=by have:=(tn_n n).1;rw[this];split <;> rfl
theorem qJ3 {A b:Nat} (h:A<2^b):(((A:Nat):Int)).natAbs<2^b:=by rw[xG9];exact h
theorem qH7 (n:Nat):10^n<2^(4*n+1):=by have:=zZ3 n;rw[xG9] at this;exact this
theorem mulN {a b k l:Nat} (h1:a<2^k) (h2:b<2^l):a*b<2^(k+l):=by
 have:=qF5 (qJ3 h1) (qJ3 h2)
 rw[←xH5,xG9] at this;exact this
theorem zU8 {A:Nat} {k:Int} {X:Value} {w:World} (hA:A<2^bU) (hk : -2000≤k∧k≤2000) (hX:DN w X (un (A:Int) 1074)) :
  Calls Tryz.prog 93 #[X,.int .i64 k] w fun r w'=>OutS w (un ((scF A k:Nat):Int) 0) (scE A k) r w':=by
 obtain⟨s,ao,n,cp,e,rfl⟩:=hX.shape;have hb:=qG5;by_cases h:0≤k
 ·obtain⟨m,rfl⟩:∃ m:Nat,k=(m:Int):=⟨k.toNat,by omega⟩
  obtain⟨t1,t2⟩:=tn_p m;refine zF s ao n cp e m _ (un ((10^m:Nat):Int) 0) (un ((A*10^m:Nat):Int) 1074) _ _ w hX h (fun W=>(yZ8 m W (by omega)).mono fun r w' h=>outQ h) ?_ ?_
  ·intro W X Y hX hY;have h:=zL0 (qJ3 hA) (qJ3 (qH7 m)) (by omega) (by omega) hX hY
   rw[←xH5] at h;exact h.mono fun r w' h=>outQ h
  ·intro W X hX;have h:=gcutN yU6 (mulN hA (qH7 m)) (by omega) (by omega) hX
   unfold scF scE;rw[t1,t2,Nat.one_mul];exact h.mono fun r w' h=>outS h
 ·obtain⟨m,rfl⟩:∃ m:Nat,k = -(m:Int):=⟨k.natAbs,by omega⟩
  have t2:=(tn_n m).2;have t1:=yW m;refine zF0 s ao n cp e _ _ (un ((10^m:Nat):Int) 0) _ _ w hX h (by rw[xG3];omega) ?_ ?_
  ·intro W;rw[Int.neg_neg];exact(yZ8 m W (by omega)).mono fun r w' h=>outQ h
  ·intro W X Y hX hY;have h:=xQ yU6 (Nat.pow_pos (by decide)) hA (qH7 m) (by omega) (by omega) (by omega) hX hY
   unfold scF scE;rw[t1,t2,xH8];exact h.mono fun r w' h=>outS h
def frD (A N:Nat) (k:Int):Int:=((A*tnO k:Nat):Int) - ((N*(tnU k*kU):Nat):Int)
theorem sgQ {Z:Int} {p b:Nat} (h:Z.natAbs<2^b) (hb:b≤90000) (hp:p≤90000) {W:World} {X:Value} (hX:DN W X (un Z p)) :
  Calls Tryz.prog 58 #[X] W fun r w'=>r=.returned (.int .i64 (if Z=0 then 0 else if Z<0 then -1 else 1))∧Bw W w':=by
 have g:=qD2 (p:=p) h hb hp;obtain⟨ao,cap,rfl,hA⟩:=hX;have k:=rsgn (na:=(un Z p).1) (ua:=ao) (un:=dlen (un Z p).2.1) (uc:=cap) (ea:=(un Z p).2.2) (w:=W) (by have:=g.2.1;omega)
 have e:(if dlen (un Z p).2.1=0 then(0:Int)else if(un Z p).1 then -1 else 1)=(if Z=0 then 0 else if Z<0 then -1 else 1):=by
  have h1:=(qJ8 (Z:=Z) (p:=p)).2;by_cases hz:Z=0
  ·rw[if_pos hz,if_pos (qQ7.2 (h1.2 hz))]
  ·rw[if_neg hz,if_neg (fun h=>hz (h1.1 (qQ7.1 h)))];have e1:(un Z p).1=decide (Z<0):=by unfold un cn;rw[if_neg (show ¬ Z.natAbs=0 by omega)]
   rw[e1];by_cases hn:Z<0
   ·rw[if_pos hn,if_pos (xU1 hn)]
   ·rw[if_neg hn,if_neg (by simpa using hn)]
 rw[e] at k;exact k
theorem xX {A N b:Nat} {k:Int} {X Y:Value} {w:World} (hA:A<2^bU) (hN:N<2^b) (hb2:b≤20000) (hk : -2000≤k∧k≤2000) (hX:DN w X (un (A:Int) 1074)) (hY:DN w Y (un (N:Int) 0)) :
  Calls Tryz.prog 96 #[X,Y,.int .i64 k] w fun r w'=>OutQ w (un (((frD A N k).natAbs:Nat):Int) 1074) r w':=by
 obtain⟨s,ao,n,cp,e,rfl⟩:=hX.shape;obtain⟨s2,ao2,n2,cp2,e2,rfl⟩:=hY.shape;have hb:=qG5;have hkU:=yO4;obtain⟨D,hD⟩:∃ D,D=frD A N k:=⟨_,rfl⟩;rw[←hD];have key:∀ {P Q c:Nat},P<2^c→Q<2^c→c≤80000→D=((P:Nat):Int) - ((Q:Nat):Int)→D.natAbs<2^(c+1)∧c+1≤90000:=by
  intro P Q c h1 h2 h3 h4;rw[xH2];exact⟨by omega,by omega⟩
 have hR:¬ (if D=0 then(0:Int)else if D<0 then -1 else 1)<0→un ((D.natAbs:Nat):Int) 1074=un D 1074:=fun h=>by
  have:¬ D<0:=fun h9=>h (by rw[if_neg (by omega),if_pos h9];decide)
  congr 1
  omega
 have hM:(if D=0 then(0:Int)else if D<0 then -1 else 1)<0→∀ W X,DN W X (un D 1074)→Calls Tryz.prog 120 #[X] W fun r w'=>OutQ W (un ((D.natAbs:Nat):Int) 1074) r w':=fun h W X hX=>by
  have h5:D<0:=by
   by_cases h9:D=0
   ·rw[if_pos h9] at h;omega
   ·rw[if_neg h9] at h;by_cases h8:D<0
    ·exact h8
    ·rw[if_neg h8] at h;omega
  have h6:=xQ1 hX;rw[yD5,show -D=((D.natAbs:Nat):Int) by omega] at h6
  exact h6.mono fun r w' h=>outQ h
 by_cases h:0≤k
 ·obtain⟨m,rfl⟩:∃ m:Nat,k=(m:Int):=⟨k.toNat,by omega⟩
  obtain⟨t1,t2⟩:=tn_p m;have hP:=mulN hA (qH7 m);have hQ:=mulN hN hkU;have eD:D=((A*10^m:Nat):Int) - ((N*kU:Nat):Int):=by rw[hD];unfold frD;rw[t1,t2,Nat.one_mul]
  obtain⟨k1,k2⟩:=key (c:=bU+(4*m+1)+(b+bU)) (xU5 hP (xU3 (by decide) (by omega))) (xU5 hQ (xU3 (by decide) (by omega))) (by omega) eD
  refine yR2 s ao n cp e s2 ao2 n2 cp2 e2 m _ _ _ (un ((10^m:Nat):Int) 0) (un ((A*10^m:Nat):Int) 1074) (un D 1074) _ w hX hY h (fun W=>(yZ8 m W (by omega)).mono fun r w' h=>outQ h) ?_ (fun W X hX=>sgQ k1 k2 (by omega) hX) ?_ hM hR
  ·intro W X Y hX hY;have h:=zL0 (qJ3 hA) (qJ3 (qH7 m)) (by omega) (by omega) hX hY
   rw[←xH5] at h;exact h.mono fun r w' h=>outQ h
  ·intro W X Y hX hY;rw[yL6,←xH5] at hY;have h:=xQ2 (qD2 (p:=1074) (qJ3 hP) (by omega) (by omega)) (qD2 (p:=1074) (qJ3 hQ) (by omega) (by omega)) hX hY
   rw[yD7,←eD] at h;exact h.mono fun r w' h=>outQ h
 ·obtain⟨m,rfl⟩:∃ m:Nat,k = -(m:Int):=⟨k.natAbs,by omega⟩
  have t2:=(tn_n m).2;have t1:=yW m;have hP:=mulN hN (qH7 m);have hQ:=mulN hP hkU;have eD:D=((A:Nat):Int) - ((N*10^m*kU:Nat):Int):=by rw[hD];unfold frD;rw[t1,t2,xH8,xH3]
  obtain⟨k1,k2⟩:=key (c:=bU+(b+(4*m+1)+bU)) (xU5 hA (xU3 (by decide) (by omega))) (xU5 hQ (xU3 (by decide) (by omega))) (by omega) eD
  refine yR3 s ao n cp e s2 ao2 n2 cp2 e2 _ _ _ _ (un ((10^m:Nat):Int) 0) (un ((N*10^m:Nat):Int) 0) (un D 1074) _ w hX hY h (by rw[xG3];omega) ?_ ?_ (fun W X hX=>sgQ k1 k2 (by omega) hX) ?_ hM hR
  ·intro W;rw[Int.neg_neg];exact(yZ8 m W (by omega)).mono fun r w' h=>outQ h
  ·intro W X Y hX hY;have h:=zL1 (qJ3 hN) (qJ3 (qH7 m)) (by omega) (by omega) hX hY
   rw[←xH5] at h;exact h.mono fun r w' h=>outQ h
  ·intro W X Y hX hY;rw[yL6,←xH5] at hY;have h:=xQ2 (qD2 (p:=1074) (qJ3 hA) (by omega) (by omega)) (qD2 (p:=1074) (qJ3 hQ) (by omega) (by omega)) hX hY
   rw[yD7,←eD] at h;exact h.mono fun r w' h=>outQ h
theorem yR1 (s:Bool) (ao:Option Addr) (n cp:Nat) (e:Int) (od:Bool) (w:World) (hn:n≤100000) (hod:(n=0∧od=false)∨(0<n∧(e==0)=od)) :
  Calls Tryz.prog 97 #[.agg #[.bool s,.slice ao n cp,.int .i64 e]] w fun r w'=>r=.returned (.bool od)∧Bw w w':=by
 obtain⟨W,hW⟩:∃ W,W=w.alloc (.cells #[.bool s,.slice ao n cp,.int .i64 e] 69):=⟨_,rfl⟩;have HW:Hid (Bw w W):=by rw[hW];exact(xV9 _ _).alloc (xV8 _) _
 have hc:W.heap[w.heap.size]?=some (.cells #[.bool s,.slice ao n cp,.int .i64 e] 69 (0,0)):=by rw[hW];exact xG5 _ _
 obtain⟨⟨c0,c1,c2⟩,-⟩:=qQ0 hc;clear hc
 go_enter Tryz.func97,Tryz.ntmps97
 go_upto_region 1 with fail;rw[←hW];clear hW;rcases hod with ⟨rfl,rfl⟩|⟨h0,h1⟩
 ·go_wp2_with fail
  go_ret;exact⟨rfl,HW.out⟩
 ·have h0':(0:Int)<(n:Int):=by omega
  go_wp2_with fail
  go_ret;exact⟨rfl,HW.out⟩
theorem d4odd {N b:Nat} {X:Value} {w:World} (hN:N<2^b) (hb:b≤60000) (hX:DN w X (un (N:Int) 0)) :
  Calls Tryz.prog 97 #[X] w fun r w'=>r=.returned (.bool (decide (N % 2=1)))∧Bw w w':=by
 have h1:=qU3 (qB (p:=0) (qJ3 hN));obtain⟨ao,cap,rfl,hA⟩:=hX;refine yR1 _ ao _ cap _ _ w (by omega) ?_
 by_cases h0:N=0
 ·subst h0;rw[show un ((0:Nat):Int) 0=(false,0,0)from qR6 0];exact .inl ⟨qQ4,rfl⟩
 ·rw[yJ5 h0];have h3:=qX9 _ _ (xV8 _) h0;have h4:N / 2^tz N≠0:=fun h=>by rw[h,Nat.mul_zero] at h3;omega
  refine .inr ⟨xU9 (fun h=>h4 (qQ7.1 h)),?_⟩;show(((tz N:Nat):Int)==0)=_
  by_cases ho:N % 2=1
  ·rw[qL1 ho,xU1 ho];rfl
  ·have:=qW9 h0 (by omega)
   rw[xU0 ho,xH];omega
theorem zY1 (s0:Bool) (ao0:Option Addr) (n0 cp0:Nat) (e0:Int) (k m c:Int) (neg ex up od:Bool) (ta tL t1 tH tf1 tf2 tR:Bool×Nat×Int) (w:World) (hA:DN w (.agg #[.bool s0,.slice ao0 n0 cp0,.int .i64 e0]) ta)
  (kS:Hid (∀ W X,DN W X ta→Calls Tryz.prog 93 #[X,.int .i64 k] W fun r w'=>OutS W tL ex r w'))
  (kW:Hid (∀ W,Calls Tryz.prog 57 #[.int .i64 1] W fun r w'=>OutQ W t1 r w'))
  (kP:Hid (∀ W X Y,DN W X tL→DN W Y t1→Calls Tryz.prog 94 #[X,Y] W fun r w'=>OutQ W tH r w'))
  (kF1:Hid (∀ W X Y,DN W X ta→DN W Y tL→Calls Tryz.prog 96 #[X,Y,.int .i64 k] W fun r w'=>OutQ W tf1 r w'))
  (kF2:Hid (∀ W X Y,DN W X ta→DN W Y tH→Calls Tryz.prog 96 #[X,Y,.int .i64 k] W fun r w'=>OutQ W tf2 r w'))
  (kO:Hid (∀ W X Y,DN W X tf1→DN W Y tf2→Calls Tryz.prog 60 #[X,Y] W fun r w'=>r=.returned (.int .i64 c)∧Bw W w'))
  (kD:Hid (∀ W X,DN W X tL→Calls Tryz.prog 97 #[X] W fun r w'=>r=.returned (.bool od)∧Bw W w'))
  (hup:(m=2∧((0<c∧up=true)∨(c=0∧up=od)∨(c<0∧up=false)))∨(m=3∧up = !neg)∨(m=1∧up=neg))
  (hR:Hid ((ex=true→tR=tL)∧(ex=false→up=true→tR=tH)∧(ex=false→up=false→tR=tL))) :
  Calls Tryz.prog 62 #[.agg #[.bool s0,.slice ao0 n0 cp0,.int .i64 e0],.int .i64 k,.bool neg,.int .i64 m] w fun r w'=>OutQ w tR r w':=by
 obtain⟨W,hW⟩:∃ W,W=(w.alloc (.cells #[.bool s0,.slice ao0 n0 cp0,.int .i64 e0] 69)).alloc (.cells #[.bool false,.slice none 0 0,.int .i64 0] 69):=⟨_,rfl⟩;have H0:Hid (NbQ W w.heap.size s0 ao0 n0 cp0 e0 ta∧W.heap[w.heap.size+1]?=some (.cells #[.bool false,.slice none 0 0,.int .i64 0] 69 (0,0))∧Bw w W):=by
  obtain⟨y1,y2,y3,y4⟩:=qV5 _ _ hW;exact⟨⟨y1,hA.later y4⟩,y2,y4⟩
 obtain⟨⟨c0,c1,c2⟩,-⟩:=qQ0 H0.out.1.1;have HUP:Hid ((m=2∧((0<c∧up=true)∨(c=0∧up=od)∨(c<0∧up=false)))∨(m=3∧up = !neg)∨(m=1∧up=neg)):=hup;have q1:=kS.out W _ H0.out.1.2;clear hup
 go_enter Tryz.func62,Tryz.ntmps62
 go_upto_region 1 with fail;rw[←hW];clear hW hA
 go_wp2_with fail;refine q1.mono ?_;rintro r w1 ⟨s1,ao1,n1,cp1,e1,rfl,hd1,hb1⟩;obtain⟨V,hV⟩:∃ V,V=w1.alloc (.cells #[.bool s1,.slice ao1 n1 cp1,.int .i64 e1] 69):=⟨_,rfl⟩;obtain⟨g9,hg9⟩:∃ g9,g9=w1.heap.size:=⟨_,rfl⟩;have H1:Hid (NbQ V w.heap.size s0 ao0 n0 cp0 e0 ta∧NbQ V g9 s1 ao1 n1 cp1 e1 tL∧V.heap[w.heap.size+1]?=some (.cells #[.bool false,.slice none 0 0,.int .i64 0] 69 (0,0))∧Bw w V):=by
  have hbV:Bw w1 V:=by rw[hV];exact(xV9 _ _).alloc (xV8 _) _
  have hb:=hb1.trans (hbV.mono hb1.size);exact⟨H0.out.1.later hb,⟨by rw[hV,hg9];exact xG5 _ _,hd1.later hbV⟩,qQ H0.out.2.1 hb (qQ6 H0.out.2.1),H0.out.2.2.trans (hb.mono H0.out.2.2.size)⟩
 clear q1 hd1 hb1 H0 c0 c1 c2
 go_upto_region 2 with fail;rw[←hV,←hg9];clear hV hg9;rcases(by cases ex <;> simp:ex=true∨ex=false)with hE|hE
 ·subst hE;obtain⟨⟨c0,c1,c2⟩,-⟩:=qQ0 H1.out.2.1.1;obtain⟨⟨d0,d1,d2⟩,f0,f1,f2⟩:=qQ0 H1.out.2.2.1;have hRR:=hR.out.1 rfl;subst hRR
  go_wp2_with fail;refine xG6 (xH9 rfl _ _ (w.heap.size+1) 69 #[.bool s1,.slice ao1 n1 cp1,.int .i64 e1] (0,0) _ rfl (qZ2 _ _ _ H1.out.2.2.1) Tryz.underlying69 rfl Tryz.info69) rfl ?_;exact⟨_,_,_,_,_,rfl,H1.out.2.1.2.storeQ H1.out.2.2.1 _ _ _,qQ2 H1.out.2.2.2 (by omega) _ _ _⟩
 subst hE
 go_upto_region 4 with fail;refine qF7 qZ7 [0,1,2] [3] [4] [21,22,23] [11] [[],[],[0,1]] [2] 69 #[.bool false,.slice none 0 0,.int .i64 0] V _ [isV (.agg #[.bool s1,.slice ao1 n1 cp1,.int .i64 e1]),isD (t1),isD (tH)] (by kernel_rfl) ⟨qQ3 _,qY _,qY _,trivial⟩ ⟨fun _ _ _ _ _ h=>h,qI6 _,qI6 _,trivial⟩ (by show ∀ s ∈ [21,22,23] ++ [11],s<64;decide) ?_ ?_ ?_ zN4 Tryz.info69 ?_ ?_
 ·intro k' hk U u h;obtain rfl:k'=0:=Nat.lt_one_iff.1 hk;obtain⟨s9,ao9,n9,cp9,e9,rfl⟩:=DN.shape (show DN U u _ from h);exact⟨_,rfl,rfl,one3 rfl rfl⟩
 ·intro j hj o ho act U hb hoth hdep;have hj':j<3:=hj;have t9':act.tmps[(9:Nat)]?=some (Value.pointer (some ⟨g9,0,none⟩)):=(hoth 9 (by decide)).trans rfl
  have d9:=(qQ0 (H1.out.2.1.later hb).1).1;rcases(by omega:j=0∨j=1∨j=2)with rfl|rfl|rfl
  ·obtain rfl:=xU ho;exact .inl ⟨rfl,qU1 rfl t9' d9.1 d9.2.1 d9.2.2 ⟨_,rfl,rfl,xV9 _ _⟩⟩
  ·obtain rfl:=xU ho;refine .inl ⟨rfl,qZ rfl (qZ4 Tryz.func57 (by kernel_rfl) (by kernel_rfl)) (vs:=#[(Value.int IntKind.i64 1)]) (by simp[qV8]) ?_⟩
   refine(kW.out U).mono ?_
   rintro r w' ⟨s9,ao9,n9,cp9,e9,rfl,hA9,hb'⟩;exact⟨_,rfl,_,rfl,hA9,hb'⟩
  ·obtain rfl:=xU ho;have y0:act.tmps[(21:Nat)]?=_:=dV (hdep 0 (by simp[dL])) rfl
   obtain⟨u1,y10,v1⟩:=hdep 1 (by simp[dL])
   have y1:act.tmps[(22:Nat)]?=_:=y10;refine .inl ⟨rfl,qZ rfl (qZ4 Tryz.func94 (by kernel_rfl) (by kernel_rfl)) (vs:=#[.agg #[.bool s1,.slice ao1 n1 cp1,.int .i64 e1],u1]) (by simp[qZ1 y0,qZ1 y1]) ?_⟩
   refine(kP.out U _ _ (H1.out.2.1.later hb).2 v1).mono ?_
   rintro r w' ⟨s9,ao9,n9,cp9,e9,rfl,hA9,hb'⟩;exact⟨_,rfl,_,rfl,hA9,hb'⟩
 ·intro k' hk;obtain rfl:k'=0:=Nat.lt_one_iff.1 hk;exact⟨_,rfl,rfl⟩
 ·intro k' hk;obtain rfl:k'=0:=Nat.lt_one_iff.1 hk;exact⟨_,rfl,rfl⟩
 ·intro u g U hb9 hu hg hap;obtain⟨g0l,cs0,q0,z0⟩:=hg 0 (by decide)
  have q9:DN U (u 2) _:=hu 2 (by show 2<3;decide)
  have q0':u 2=.agg cs0:=q0;rw[q0'] at q9;obtain⟨s9,ao9,n9,cp9,e9,h9⟩:=DN.shape q9;obtain rfl:=Value.agg.inj h9;obtain⟨g11,hg11⟩:∃ x,x=g 0:=⟨_,rfl⟩;rw[←hg11] at z0 g0l;clear hu hg hap q0 q0';simp only[putL,show List.range 3 = [0,1,2] from rfl,show List.range 1 = [0] from rfl,List.length_cons,List.length_nil,List.getD_cons_zero,List.getD_cons_succ,List.map_cons,List.map_nil,List.cons_append,List.nil_append,List.foldl_cons,List.foldl_nil,Nat.reduceLT,Nat.reduceMod,Nat.reduceDiv,Nat.reduceMul,Nat.reduceAdd,Nat.reduceEqDiff,reduceIte,Nat.one_ne_zero,Act.put,List.setIfInBounds_toArray,List.set_cons_zero,List.set_cons_succ];rw[←hg11];clear hg11;obtain⟨s2,ao2,n2,cp2,e2,h2⟩:∃ (s2:Bool) (ao2:Option Addr) (n2 cp2:Nat) (e2:Int),(#[Value.bool s9,.slice ao9 n9 cp9,.int .i64 e9]:Array Value) = #[.bool s2,.slice ao2 n2 cp2,.int .i64 e2]:=⟨_,_,_,_,_,rfl⟩;rw[h2] at z0 q9;have H2:Hid (NbQ U w.heap.size s0 ao0 n0 cp0 e0 ta∧NbQ U g9 s1 ao1 n1 cp1 e1 tL∧NbQ U g11 s2 ao2 n2 cp2 e2 tH∧U.heap[w.heap.size+1]?=some (.cells #[.bool false,.slice none 0 0,.int .i64 0] 69 (0,0))∧Bw w U):=⟨H1.out.1.later hb9,H1.out.2.1.later hb9,⟨z0,q9⟩,qQ H1.out.2.2.1 hb9 (qQ6 H1.out.2.2.1),H1.out.2.2.2.trans (hb9.mono H1.out.2.2.2.size)⟩;clear hb9 z0 q9 H1 h2 g0l h9;generalize U=U0 at *
  go_upto_region 5 with fail;refine qG8 [0,1,2,3,4,5,6,7,8,9] [24,25,26,27,28,29,30,31,32,12] [[],[],[],[0,1,2],[],[],[],[4,5,6],[3,7],[8]] U0 _ [isV (.agg #[.bool s0,.slice ao0 n0 cp0,.int .i64 e0]),isV (.agg #[.bool s1,.slice ao1 n1 cp1,.int .i64 e1]),isV (.int .i64 k),isD tf1,isV (.agg #[.bool s0,.slice ao0 n0 cp0,.int .i64 e0]),isV (.agg #[.bool s2,.slice ao2 n2 cp2,.int .i64 e2]),isV (.int .i64 k),isD tf2,isV (.int .i64 c),isV (.int .i64 c)] (by kernel_rfl) ⟨qQ3 _,qQ3 _,qQ3 _,qY _,qQ3 _,qQ3 _,qQ3 _,qY _,qQ3 _,qQ3 _,trivial⟩ (by show ∀ s ∈ [24,25,26,27,28,29,30,31,32,12],s<64;decide) ?_ ?_
  ·intro j hj o ho act U hb hoth hdep;have hj':j<10:=hj;have t4':act.tmps[(4:Nat)]?=some (Value.pointer (some ⟨w.heap.size,0,none⟩)):=(hoth 4 (by decide)).trans rfl
   have t9':act.tmps[(9:Nat)]?=some (Value.pointer (some ⟨g9,0,none⟩)):=(hoth 9 (by decide)).trans rfl
   have t11':act.tmps[(11:Nat)]?=some (Value.pointer (some ⟨g11,0,none⟩)):=(hoth 11 (by decide)).trans rfl
   have t1':act.tmps[(1:Nat)]?=some (Value.int .i64 k):=(hoth 1 (by decide)).trans rfl
   have d4:=(qQ0 (H2.out.1.later hb).1).1;have d9:=(qQ0 (H2.out.2.1.later hb).1).1;have d11:=(qQ0 (H2.out.2.2.1.later hb).1).1;rcases(by omega:j=0∨j=1∨j=2∨j=3∨j=4∨j=5∨j=6∨j=7∨j=8∨j=9)with rfl|rfl|rfl|rfl|rfl|rfl|rfl|rfl|rfl|rfl
   ·obtain rfl:=xU ho;exact .inl ⟨rfl,qU1 rfl t4' d4.1 d4.2.1 d4.2.2 ⟨_,rfl,rfl,xV9 _ _⟩⟩
   ·obtain rfl:=xU ho;exact .inl ⟨rfl,qU1 rfl t9' d9.1 d9.2.1 d9.2.2 ⟨_,rfl,rfl,xV9 _ _⟩⟩
   ·obtain rfl:=xU ho;exact .inl ⟨rfl,qX5 rfl t1' ⟨_,rfl,rfl,xV9 _ _⟩⟩
   ·obtain rfl:=xU ho;have y0:act.tmps[(24:Nat)]?=_:=dV (hdep 0 (by simp[dL])) rfl
    have y1:act.tmps[(25:Nat)]?=_:=dV (hdep 1 (by simp[dL])) rfl
    have y2:act.tmps[(26:Nat)]?=_:=dV (hdep 2 (by simp[dL])) rfl
    refine .inl ⟨rfl,qZ rfl (qZ4 Tryz.func96 (by kernel_rfl) (by kernel_rfl)) (vs:=#[.agg #[.bool s0,.slice ao0 n0 cp0,.int .i64 e0],.agg #[.bool s1,.slice ao1 n1 cp1,.int .i64 e1],.int .i64 k]) (by simp[qZ1 y0,qZ1 y1,qZ1 y2]) ?_⟩
    refine(kF1.out U _ _ (H2.out.1.later hb).2 (H2.out.2.1.later hb).2).mono ?_
    rintro r w' ⟨s9,ao9,n9,cp9,e9,rfl,hA9,hb'⟩;exact⟨_,rfl,_,rfl,hA9,hb'⟩
   ·obtain rfl:=xU ho;exact .inl ⟨rfl,qU1 rfl t4' d4.1 d4.2.1 d4.2.2 ⟨_,rfl,rfl,xV9 _ _⟩⟩
   ·obtain rfl:=xU ho;exact .inl ⟨rfl,qU1 rfl t11' d11.1 d11.2.1 d11.2.2 ⟨_,rfl,rfl,xV9 _ _⟩⟩
   ·obtain rfl:=xU ho;exact .inl ⟨rfl,qX5 rfl t1' ⟨_,rfl,rfl,xV9 _ _⟩⟩
   ·obtain rfl:=xU ho;have y4:act.tmps[(28:Nat)]?=_:=dV (hdep 4 (by simp[dL])) rfl
    have y5:act.tmps[(29:Nat)]?=_:=dV (hdep 5 (by simp[dL])) rfl
    have y6:act.tmps[(30:Nat)]?=_:=dV (hdep 6 (by simp[dL])) rfl
    refine .inl ⟨rfl,qZ rfl (qZ4 Tryz.func96 (by kernel_rfl) (by kernel_rfl)) (vs:=#[.agg #[.bool s0,.slice ao0 n0 cp0,.int .i64 e0],.agg #[.bool s2,.slice ao2 n2 cp2,.int .i64 e2],.int .i64 k]) (by simp[qZ1 y4,qZ1 y5,qZ1 y6]) ?_⟩
    refine(kF2.out U _ _ (H2.out.1.later hb).2 (H2.out.2.2.1.later hb).2).mono ?_
    rintro r w' ⟨s9,ao9,n9,cp9,e9,rfl,hA9,hb'⟩;exact⟨_,rfl,_,rfl,hA9,hb'⟩
   ·obtain rfl:=xU ho;obtain⟨u3,y30,v3⟩:=hdep 3 (by simp[dL])
    have y3:act.tmps[(27:Nat)]?=_:=y30;obtain⟨u7,y70,v7⟩:=hdep 7 (by simp[dL])
    have y7:act.tmps[(31:Nat)]?=_:=y70;refine .inl ⟨rfl,qZ rfl (qZ4 Tryz.func60 (by kernel_rfl) (by kernel_rfl)) (vs:=#[u3,u7]) (by simp[qZ1 y3,qZ1 y7]) ?_⟩
    refine(kO.out U _ _ v3 v7).mono ?_
    rintro r w' ⟨rfl,hb'⟩;exact⟨_,rfl,_,rfl,rfl,hb'⟩
   ·obtain rfl:=xU ho;have y8:act.tmps[(32:Nat)]?=_:=dV (hdep 8 (by simp[dL])) rfl
    exact .inl ⟨rfl,qX6 rfl y8 ⟨_,rfl,rfl,xV9 _ _⟩⟩
  ·intro u W9 hb9 hu;have u9:u 9=.int .i64 c:=hu 9 (by show 9<10;decide)
   clear hu;simp only[putL,show List.range 10 = [0,1,2,3,4,5,6,7,8,9] from rfl,List.length_cons,List.length_nil,List.getD_cons_zero,List.getD_cons_succ,List.map_cons,List.map_nil,List.cons_append,List.nil_append,List.foldl_cons,List.foldl_nil,Nat.reduceLT,Nat.reduceMod,Nat.reduceDiv,Nat.reduceMul,Nat.reduceAdd,Nat.reduceEqDiff,reduceIte,Nat.one_ne_zero,Act.put,List.setIfInBounds_toArray,List.set_cons_zero,List.set_cons_succ];rw[u9];clear u9;have H3:Hid (NbQ W9 g9 s1 ao1 n1 cp1 e1 tL∧NbQ W9 g11 s2 ao2 n2 cp2 e2 tH∧W9.heap[w.heap.size+1]?=some (.cells #[.bool false,.slice none 0 0,.int .i64 0] 69 (0,0))∧Bw w W9):=⟨H2.out.2.1.later hb9,H2.out.2.2.1.later hb9,qQ H2.out.2.2.2.1 hb9 (qQ6 H2.out.2.2.2.1),H2.out.2.2.2.2.trans (hb9.mono H2.out.2.2.2.2.size)⟩;clear hb9 H2
   go_upto_region 6 with fail
   go_cut [61] from 33 to 62 (fun v wx=>v=.bool up∧Hid (NbQ wx g9 s1 ao1 n1 cp1 e1 tL∧NbQ wx g11 s2 ao2 n2 cp2 e2 tH∧wx.heap[w.heap.size+1]?=some (.cells #[.bool false,.slice none 0 0,.int .i64 0] 69 (0,0))∧Bw w wx))
   case first =>
    rcases HUP.out with ⟨rfl,h⟩|⟨rfl,h⟩|⟨rfl,h⟩
    ·rcases h with ⟨hc,rfl⟩|⟨rfl,rfl⟩|⟨hc,rfl⟩
     ·clear HUP
      go_wp2_with fail
      go_meet
      exact⟨rfl,H3⟩
     ·clear HUP;obtain⟨⟨c0,c1,c2⟩,-⟩:=qQ0 H3.out.1.1;have q1:=kD.out W9 _ H3.out.1.2;cases up
      all_goals
       go_wp2_with fail;refine q1.mono ?_;rintro r wq ⟨rfl,hbq⟩;have H4:Hid (NbQ wq g9 s1 ao1 n1 cp1 e1 tL∧NbQ wq g11 s2 ao2 n2 cp2 e2 tH∧wq.heap[w.heap.size+1]?=some (.cells #[.bool false,.slice none 0 0,.int .i64 0] 69 (0,0))∧Bw w wq):=⟨H3.out.1.later hbq,H3.out.2.1.later hbq,qQ H3.out.2.2.1 hbq (qQ6 H3.out.2.2.1),H3.out.2.2.2.trans (hbq.mono H3.out.2.2.2.size)⟩;clear q1 hbq H3 c0 c1 c2
       go_wp2_with fail
       go_meet
       exact⟨rfl,H4⟩
     ·clear HUP;have hc1:¬ (0:Int)<c:=by omega
      have hc2:(c==0)=false:=by rw[xH];omega
      clear hc
      go_wp2_with fail
      go_meet
      exact⟨rfl,H3⟩
    ·clear HUP;cases neg
     all_goals
      subst h
      go_wp2_with fail
      go_meet
      exact⟨rfl,H3⟩
    ·clear HUP;subst h;cases up
     all_goals
      go_wp2_with fail
      go_meet
      exact⟨rfl,H3⟩
   case rest =>
   obtain⟨rfl,H4⟩:=hcut;clear HUP H3;obtain⟨⟨d0,d1,d2⟩,f0,f1,f2⟩:=qQ0 H4.out.2.2.1;rcases(by cases up <;> simp:up=true∨up=false)with hE|hE
   ·subst hE;obtain⟨⟨c0,c1,c2⟩,-⟩:=qQ0 H4.out.2.1.1;have hRR:=hR.out.2.1 rfl rfl;subst hRR
    go_wp2_with fail;refine xG6 (xH9 rfl _ _ (w.heap.size+1) 69 #[.bool s2,.slice ao2 n2 cp2,.int .i64 e2] (0,0) _ rfl (qZ2 _ _ _ H4.out.2.2.1) Tryz.underlying69 rfl Tryz.info69) rfl ?_;exact⟨_,_,_,_,_,rfl,H4.out.2.1.2.storeQ H4.out.2.2.1 _ _ _,qQ2 H4.out.2.2.2 (by omega) _ _ _⟩
   ·subst hE;obtain⟨⟨c0,c1,c2⟩,-⟩:=qQ0 H4.out.1.1;have hRR:=hR.out.2.2 rfl rfl;subst hRR
    go_wp2_with fail;refine xG6 (xH9 rfl _ _ (w.heap.size+1) 69 #[.bool s1,.slice ao1 n1 cp1,.int .i64 e1] (0,0) _ rfl (qZ2 _ _ _ H4.out.2.2.1) Tryz.underlying69 rfl Tryz.info69) rfl ?_;exact⟨_,_,_,_,_,rfl,H4.out.1.2.storeQ H4.out.2.2.1 _ _ _,qQ2 H4.out.2.2.2 (by omega) _ _ _⟩
def scR (A:Nat) (k:Int):Nat:=A*tnO k % (tnU k*kU)
def rdU (A:Nat) (k:Int) (neg:Bool) (m:Int):Bool :=
 if m=2 then decide (tnU k*kU<2*scR A k)||(decide (2*scR A k=tnU k*kU)&&decide (scF A k % 2=1))else if m=3 then !neg else neg
def rdN (A:Nat) (k:Int) (neg:Bool) (m:Int):Nat:=if scE A k then scF A k else if rdU A k neg m then scF A k+1 else scF A k
theorem zZ2 (k:Int):0<tnU k*kU:=Nat.mul_pos (Nat.pow_pos (by decide)) yO3
theorem yB (A:Nat) (k:Int):A*tnO k=tnU k*kU*scF A k+scR A k∧scR A k<tnU k*kU:=⟨(Nat.div_add_mod _ _).symm,xG1 _ (zZ2 k)⟩
def hT8:Nat:=8001
theorem zT0:hT8=8001:=rfl
theorem yJ6 (x:Nat):(un ((x:Nat):Int) 0).1=false:=by unfold un cn;split;rfl;exact qI0 x
theorem yV0 {k:Int} (hk : -2000≤k∧k≤2000):tnO k<2^hT8∧tnU k<2^hT8:=by
 have key:∀ n:Nat,n≤2000→10^n<2^hT8:=fun n hn=>xU5 (qH7 n) (xU3 (by decide) (by rw[zT0];omega))
 exact⟨key _ (by omega),key _ (by omega)⟩
theorem zP8 {A:Nat} {k:Int} (hA:A<2^bU) (hk : -2000≤k∧k≤2000):scF A k<2^(bU+hT8)∧scF A k+1<2^(bU+hT8+1)∧tnU k*kU<2^(hT8+bU):=by
 have h1:=mulN hA (yV0 hk).1;have h2:scF A k≤A*tnO k:=xU8 _ _;have h3:=mulN (yV0 hk).2 yO4;refine⟨by omega,?_,h3⟩
 rw[xH2];have:=Nat.one_le_two_pow (n:=bU+hT8)
 omega
theorem xQ5 (A:Nat) (k:Int):(frD A (scF A k) k).natAbs=scR A k∧(frD A (scF A k+1) k).natAbs=tnU k*kU - scR A k:=by
 obtain⟨h1,h2⟩:=yB A k;unfold frD;rw[h1,Nat.add_mul,xH1 (scF A k),Nat.one_mul];generalize tnU k*kU*scF A k=T;omega
theorem rd_up {Q r low:Nat} {m:Int} {neg U:Bool} (hm:1≤m∧m≤3) (e2:r<Q) (hU:U=if m=2 then decide (Q<2*r)||(decide (2*r=Q)&&decide (low % 2=1))else if m=3 then !neg else neg):(m=2∧((0<cmpI ((r:Nat):Int) ((Q - r:Nat):Int)∧U=true)∨(cmpI ((r:Nat):Int) ((Q - r:Nat):Int)=0∧U=decide (low % 2=1))∨(cmpI ((r:Nat):Int) ((Q - r:Nat):Int)<0∧U=false)))∨(m=3∧U = !neg)∨(m=1∧U=neg):=by
 rcases(by omega:m=2∨m=3∨m=1)with rfl|rfl|rfl
 ·refine .inl ⟨rfl,?_⟩;rw[if_pos rfl] at hU;subst hU;rcases qX7 ((r:Nat):Int) ((Q - r:Nat):Int)with ⟨h1,h2⟩|⟨h1,h2⟩|⟨h1,h2⟩
  ·refine .inr (.inr ⟨by omega,?_⟩)
   rw[xU0 (by omega),xU0 (by omega)]
   rfl
  ·refine .inl ⟨by omega,?_⟩
   rw[xU1 (by omega)]
   rfl
  ·refine .inr (.inl ⟨by omega,?_⟩)
   rw[xU0 (by omega),xU1 (show 2*r=Q by omega)]
   rfl
 ·exact .inr (.inl ⟨rfl,by rw[hU,if_neg (by decide),if_pos rfl]⟩)
 ·exact .inr (.inr ⟨rfl,by rw[hU,if_neg (by decide),if_neg (by decide)]⟩)
theorem qO4 {A:Nat} {k m:Int} {neg:Bool} {X:Value} {w:World} (hA:A<2^bU) (hk : -2000≤k∧k≤2000) (hm:1≤m∧m≤3) (hX:DN w X (un (A:Int) 1074)) :
  Calls Tryz.prog 62 #[X,.int .i64 k,.bool neg,.int .i64 m] w fun r w'=>OutQ w (un ((rdN A k neg m:Nat):Int) 0) r w':=by
 obtain⟨s,ao,n,cp,e,rfl⟩:=hX.shape;obtain⟨b1,b2,b3⟩:=zP8 hA hk;obtain⟨f1,f2⟩:=xQ5 A k;obtain⟨e1,e2⟩:=yB A k;have hb:=qG5;have h8:=zT0;refine zY1 s ao n cp e k m (cmpI ((scR A k:Nat):Int) ((tnU k*kU - scR A k:Nat):Int)) neg (scE A k) (rdU A k neg m) (decide (scF A k % 2=1)) _ (un ((scF A k:Nat):Int) 0) (un 1 0) (un ((scF A k+1:Nat):Int) 0) (un ((scR A k:Nat):Int) 1074) (un ((tnU k*kU - scR A k:Nat):Int) 1074) _ w hX ?_ ?_ ?_ ?_ ?_ ?_ ?_ ?_ ?_
 ·exact fun W X hX=>zU8 hA hk hX
 ·exact fun W=>(zX8 (n:=1) (by omega) W).mono fun r w' h=>outQ h
 ·intro W X Y hX hY;have h:=yO9 (qD2 (p:=0) (qJ3 b1) (by omega) (by omega)) (qD2 (p:=0) (show((1:Int)).natAbs<2^1 by decide) (by omega) (by omega)) hX hY (.inl (by rw[yJ6,show((1:Int))=((1:Nat):Int)from rfl,yJ6]))
  rw[yD4] at h;exact h.mono fun r w' h=>outQ h
 ·intro W X Y hX hY;have h:=xX hA b1 (by omega) hk hX hY
  rw[f1] at h;exact h
 ·intro W X Y hX hY;have h:=xX hA b2 (by omega) hk hX hY
  rw[f2] at h;exact h
 ·intro W X Y hX hY;exact zX9 (qJ3 (Nat.lt_trans e2 b3)) (qJ3 (xU6 (Nat.sub_le _ _) b3)) (by omega) (by omega) (by omega) hX hY
 ·exact fun W X hX=>d4odd b1 (by omega) hX
 ·exact rd_up hm e2 (by unfold rdU;exact Eq.refl _)
 ·refine⟨fun h=>?_,fun h h2=>?_,fun h h2=>?_⟩
  ·unfold rdN;rw[if_pos h]
  ·unfold rdN;rw[if_neg (by rw[h];decide),if_pos h2]
  ·unfold rdN;rw[if_neg (by rw[h];decide),if_neg (by rw[h2];decide)]
theorem yQ1:(2:Nat)^kP=kU:=by
 have h:kU=pU kP:=by unfold kU;rw[qD9]
 rw[h];unfold pU;exact Eq.refl _
theorem yQ2:kU=2*2^kP1:=by
 rw[←yQ1,show kP=kP1+1 by rw[qD9];rfl,xH2,xH1]
theorem yF0 {a:Nat} {k m:Int} (hm:1≤m∧m≤3):uN a k m=rdN (fU a) k (neg a) m:=by
 obtain⟨e1,e2⟩:=yB (fU a) k;have hQ:=zZ2 k;obtain⟨h,hh⟩:∃ h,h=tnU k*2^kP1:=⟨_,rfl⟩;have hQh:tnU k*kU=2*h:=by rw[yQ2,hh,←xH3,xH1 (tnU k) 2,xH3]
 obtain⟨low,hlow⟩:∃ low,low=scF (fU a) k:=⟨_,rfl⟩;obtain⟨r,hr⟩:∃ r,r=scR (fU a) k:=⟨_,rfl⟩;obtain⟨P,hP⟩:∃ P,P=fU a*tnO k:=⟨_,rfl⟩;obtain⟨T,hT⟩:∃ T,T=h*low:=⟨_,rfl⟩;have eP:P=2*T+r:=by rw[hP,e1,hQh,←hlow,←hr,hT,xH3]
 have hX:∀ Z:Int,unX Z (tnO k) (tnU k)=decide (Z*(tnO k:Int) % ((2*h:Nat):Int)=0):=fun Z=>by unfold unX;rw[yQ1,hQh]
 have hF:∀ Z:Int,unF Z (tnO k) (tnU k)=Z*(tnO k:Int) / ((2*h:Nat):Int):=fun Z=>by unfold unF;rw[yQ1,hQh]
 have hA:∀ (Z:Int) (F:Int),unF Z (tnO k) (tnU k)=F→unA Z (tnO k) (tnU k)=(decide ((F*2+1)*(h:Int)<Z*(tnO k:Int))||(decide ((F*2+1)*(h:Int)=Z*(tnO k:Int))&&decide (F % 2=1))):=fun Z F e=>by
  unfold unA;rw[e,Int.mul_assoc,←xH5,←hh]
 have hE:scE (fU a) k=decide (r=0):=by unfold scE;rw[hr];rfl
 have hU:rdU (fU a) k (neg a) m=if m=2 then decide (2*h<2*r)||(decide (2*r=2*h)&&decide (low % 2=1))else if m=3 then !(neg a)else neg a:=by unfold rdU;rw[hQh,←hr,←hlow]
 unfold rdN;rw[hE,hU,←hlow];rw[←hr,hQh] at e2;have hdm:P / (2*h)=low∧P % (2*h)=r:=by
  have h1:P=2*h*low+r:=by rw[eP,hT,xH3]
  exact⟨by rw[h1,Nat.mul_add_div (by omega),Nat.div_eq_of_lt e2,Nat.add_zero],by rw[h1,Nat.mul_add_mod,xG0 e2]⟩
 have eT:((low:Int)*2+1)*(h:Int)=((2*T+h:Nat):Int):=by
  rw[hT];push_cast;grind
 have hlo:((h*low:Nat):Int)=(h:Int)*(low:Int):=by push_cast;rfl
 unfold uN unR unP;cases hn:neg a
 ·have eZ:sZ a*(tnO k:Int)=(P:Int):=by unfold sZ;rw[hn,if_neg (by decide),hP,xH5]
  have eF:unF (sZ a) (tnO k) (tnU k)=(low:Int):=by rw[hF,eZ,←Int.natCast_ediv,hdm.1]
  have eX:unX (sZ a) (tnO k) (tnU k)=decide (r=0):=by
   rw[hX,eZ];have:((P:Int) % ((2*h:Nat):Int))=(r:Int):=by rw[←Int.natCast_emod,hdm.2]
   rw[this];by_cases h0:r=0
   ·rw[xU1 h0,xU1 (by omega)]
   ·rw[xU0 h0,xU0 (by omega)]
  rw[eX,hA _ _ eF,eF,eZ,eT];by_cases h0:r=0
  ·rw[xU1 h0];simp
  ·rw[xU0 h0];rcases(by omega:m=1∨m=2∨m=3)with rfl|rfl|rfl
   ·simp
   ·have c1:decide (((2*T+h:Nat):Int)<(P:Int))=decide (2*h<2*r):=by
     by_cases c:h<r
     ·rw[xU1 (by omega),xU1 (by omega)]
     ·rw[xU0 (by omega),xU0 (by omega)]
    have c2:decide (((2*T+h:Nat):Int)=(P:Int))=decide (2*r=2*h):=by
     by_cases c:r=h
     ·rw[xU1 (by omega),xU1 (by omega)]
     ·rw[xU0 (by omega),xU0 (by omega)]
    have c3:decide ((low:Int) % 2=1)=decide (low % 2=1):=by
     by_cases c:low % 2=1
     ·rw[xU1 c,xU1 (by omega)]
     ·rw[xU0 c,xU0 (by omega)]
    rw[c1,c2,c3];simp only[Bool.not_false,Bool.true_and,show((2:Int)=3)=False by simp,decide_false,Bool.false_or,decide_true,if_true,Bool.false_eq_true,if_false]
    split <;> omega
   ·simp
    omega
 ·have eZ:sZ a*(tnO k:Int) = -(P:Int):=by unfold sZ;rw[hn,if_pos rfl,hP,xH5,Int.neg_mul]
  by_cases h0:r=0
  ·have eF:unF (sZ a) (tnO k) (tnU k) = -(low:Int):=by
    rw[hF,eZ];refine Int.ediv_eq_of_eq_mul_right (by omega) ?_
    have:P=2*h*low:=by rw[eP,h0,hT,xH3];rfl
    rw[this];push_cast;grind
   have eX:unX (sZ a) (tnO k) (tnU k)=true:=by
    rw[hX,eZ];refine xU1 ?_;have:P=2*h*low:=by rw[eP,h0,hT,xH3];rfl
    rw[this];refine Int.emod_eq_zero_of_dvd ⟨-(low:Int),?_⟩;push_cast;grind
   rw[eX,eF,xU1 h0];simp
  ·have eF:unF (sZ a) (tnO k) (tnU k) = -((low:Int)+1):=by
    rw[hF,eZ];have h7 : -(P:Int)=((2*h:Nat):Int)*(-((low:Int)+1))+((2*h - r:Nat):Int):=by
     have h8:((2*h - r:Nat):Int)=2*(h:Int) - (r:Int):=by omega
     rw[h8,eP,hT];push_cast;grind
    rw[h7,Int.mul_add_ediv_left _ _ (by omega),Int.ediv_eq_zero_of_lt (by omega) (by omega),Int.add_zero]
   have eX:unX (sZ a) (tnO k) (tnU k)=false:=by
    rw[hX,eZ];refine xU0 fun h9=>?_;have h10:=Int.dvd_of_emod_eq_zero h9;rw[Int.dvd_neg,Int.natCast_dvd_natCast] at h10;have:=Nat.mod_eq_zero_of_dvd h10
    omega
   have eT2:(-((low:Int)+1)*2+1)*(h:Int) = -((2*T+h:Nat):Int):=by
    rw[←eT];grind
   rw[eX,hA _ _ eF,eF,eZ,eT2,xU0 h0];rcases(by omega:m=1∨m=2∨m=3)with rfl|rfl|rfl
   ·simp
    omega
   ·have c1:decide (-((2*T+h:Nat):Int) < -(P:Int))=decide (r<h):=by
     by_cases c:r<h
     ·rw[xU1 c,xU1 (by omega)]
     ·rw[xU0 c,xU0 (by omega)]
    have c2:decide (-((2*T+h:Nat):Int) = -(P:Int))=decide (r=h):=by
     by_cases c:r=h
     ·rw[xU1 c,xU1 (by omega)]
     ·rw[xU0 c,xU0 (by omega)]
    have c3:decide (-((low:Int)+1) % 2=1) = !decide (low % 2=1):=by
     by_cases c:low % 2=1
     ·rw[xU1 c,xU0 (by omega)];rfl
     ·rw[xU0 c,xU1 (by omega)];rfl
    rw[c1,c2,c3];simp only[Bool.not_false,Bool.true_and,show((2:Int)=3)=False by simp,decide_false,Bool.false_or,decide_true,if_true,Bool.false_eq_true,if_false]
    rcases(by omega:r<h∨r=h∨h<r)with c|c|c
    ·rw[xU1 c,xU0 (show ¬ 2*h<2*r by omega),xU0 (show ¬ 2*r=2*h by omega)]
     simp
     omega
    ·rw[xU0 (show ¬ r<h by omega),xU1 c,xU0 (show ¬ 2*h<2*r by omega),xU1 (show 2*r=2*h by omega)]
     by_cases c4:low % 2=1
     ·rw[xU1 c4];simp;omega
     ·rw[xU0 c4];simp;omega
    ·rw[xU0 (show ¬ r<h by omega),xU0 (show ¬ r=h by omega),xU1 (show 2*h<2*r by omega)]
     simp
     omega
   ·simp
    omega
theorem qW2 (F:Nat) (s:Bool) (w:World)
  (ks:∀ W,Calls Tryz.prog 63 #[.float .f64 F] W fun r w'=>r=.returned (.bool s)∧w'=W)
  (o1:(FloatKind.f64.format.order F F != some Ordering.eq)=true) :
  Calls Tryz.prog 38 #[.float .f64 F] w fun r w'=>r=.returned (.tuple #[.string ⟨#[110,97,110]⟩,.bool true])∧w'=w:=by
 cases s
 all_goals
  go_enter Tryz.func38,Tryz.ntmps38
  go_wp2_with (go_at_call 63;refine(ks _).mono ?_;rintro r w' ⟨rfl,hw⟩;replace hw:=hw.symm;subst hw)
  refine xG6 (xF rfl _ _ _) rfl ?_;exact⟨rfl,rfl⟩
theorem qW3 (F:Nat) (s:Bool) (w:World)
  (ks:∀ W,Calls Tryz.prog 63 #[.float .f64 F] W fun r w'=>r=.returned (.bool s)∧w'=W)
  (o1:(FloatKind.f64.format.order F F != some Ordering.eq)=false)
  (o23:(FloatKind.f64.format.order F 9218868437227405311==some Ordering.gt)=true∨((FloatKind.f64.format.order F 9218868437227405311==some Ordering.gt)=false∧(FloatKind.f64.format.order F 18442240474082181119==some Ordering.lt)=true)) :
  Calls Tryz.prog 38 #[.float .f64 F] w fun r w'=>r=.returned (.tuple #[.string ⟨(sgL s [105,110,102]).toArray⟩,.bool true])∧w'=w:=by
 have h1:(⟨#[]⟩:ByteArray).size+(⟨#[105,110,102]⟩:ByteArray).size≤9223372036854775807:=by
  rw[show(⟨#[]⟩:ByteArray).size=0 from rfl,show(⟨#[105,110,102]⟩:ByteArray).size=3 from rfl];omega
 have h2:(⟨#[45]⟩:ByteArray).size+(⟨#[105,110,102]⟩:ByteArray).size≤9223372036854775807:=by
  rw[show(⟨#[45]⟩:ByteArray).size=1 from rfl,show(⟨#[105,110,102]⟩:ByteArray).size=3 from rfl];omega
 have e1:(⟨#[]⟩:ByteArray)++⟨#[105,110,102]⟩=⟨#[105,110,102]⟩:=qQ8 [] [105,110,102];have e2:(⟨#[45]⟩:ByteArray)++⟨#[105,110,102]⟩=⟨#[45,105,110,102]⟩:=qQ8 [45] [105,110,102];rcases o23 with o2|⟨o2,o3⟩
 all_goals
  cases s
  all_goals
   go_enter Tryz.func38,Tryz.ntmps38
   go_wp2_with (go_at_call 63;refine(ks _).mono ?_;rintro r w' ⟨rfl,hw⟩;replace hw:=hw.symm;subst hw)
   refine xG6 (xF rfl _ _ _) rfl ?_;refine⟨?_,rfl⟩
   first|(rw[←e2];rfl)|(rw[←e1];rfl)|rfl
theorem yR4 {a:Nat} (ha:a<18446744073709551616) (w:World):Calls Tryz.prog 46 #[.float .f64 a] w fun r w'=>OutQ w (un ((fU a:Nat):Int) 1074) r w':=by
 have hm:=yP6 a ha;have e:sU (mag a)=((fU a:Nat):Int):=by
  unfold sU;have h1:neg (mag a)=false:=by unfold neg mag;exact xU0 (by omega)
  have h2:mag (mag a)=mag a:=by unfold mag;omega
  rw[h1,if_neg (by decide)]
  unfold fU Ie.mant Ie.lp;rw[h2]
 obtain⟨W,hW⟩:∃ W,W=w.alloc (.cells #[.bool false,.slice none 0 0,.int .i64 0] 69):=⟨_,rfl⟩;have HW:Hid (Bw w W∧W.heap[w.heap.size]?=some (.cells #[.bool false,.slice none 0 0,.int .i64 0] 69 (0,0))):=⟨by rw[hW];exact(xV9 _ _).alloc (xV8 _) _,by rw[hW];exact xG5 _ _⟩
 have ka:=fun V=>c159 a ha V;have kf:=fun V=>yS7 (a:=mag a) hm V;rw[e] at kf;clear e
 go_enter Tryz.func46,Tryz.ntmps46
 go_upto_region 1 with fail;rw[←hW];clear hW
 go_wp2_with (go_at_call 22;refine(ka _).mono ?_;rintro r w' ⟨rfl,hw⟩;replace hw:=hw.symm;subst hw)
 refine(kf _).mono ?_
 rintro r w1 ⟨A,rfl,hA,hb⟩;obtain⟨s1,ao1,n1,cp1,e1,rfl⟩:=hA.shape;have HB:Hid (Bw w w1∧w1.heap[w.heap.size]?=some (.cells #[.bool false,.slice none 0 0,.int .i64 0] 69 (0,0))∧DN w1 (.agg #[.bool s1,.slice ao1 n1 cp1,.int .i64 e1]) (un ((fU a:Nat):Int) 1074)):=⟨HW.out.1.trans (hb.mono HW.out.1.size),qQ HW.out.2 hb (qQ6 HW.out.2),hA⟩;clear ka kf hA hb HW;obtain⟨⟨d0,d1,d2⟩,f0,f1,f2⟩:=qQ0 HB.out.2.1
 go_wp2_with fail;refine xG6 (xH9 rfl _ _ (w.heap.size) 69 #[.bool s1,.slice ao1 n1 cp1,.int .i64 e1] (0,0) _ rfl (qZ2 _ _ _ HB.out.2.1) Tryz.underlying69 rfl Tryz.info69) rfl ?_;exact⟨_,_,_,_,_,rfl,HB.out.2.2.storeQ HB.out.2.1 _ _ _,qQ2 HB.out.1 (xV8 _) _ _ _⟩
theorem yR0 (d:List UInt8) (p:Int) (w:World) (hd:d.length≤20000) (hp:p=0) (hl:¬ d = []):Calls Tryz.prog 51 #[.string ⟨d.toArray⟩,.int .i64 p] w fun r w'=>r=.returned (.string ⟨d.toArray⟩)∧Bw w w':=by
 subst hp;have hsz:(⟨d.toArray⟩:ByteArray).size=d.length:=rfl
 go_enter Tryz.func51,Tryz.ntmps51
 go_wp2
 go_ret;exact⟨rfl,xV9 _ _⟩
theorem xZ9 (E:List UInt8) (p:Int) (q:Nat) (w:World) (hd:E.length≤50000) (hp:¬ p=0) (hp0:0≤p) (hp2:p≤20000) (hl:¬ (E.length:Int)≤p) (hq:Hid ((E.length:Int) - p=(q:Int))) :
  Calls Tryz.prog 51 #[.string ⟨E.toArray⟩,.int .i64 p] w fun r w'=>r=.returned (.string ⟨(E.take q++46 :: E.drop q).toArray⟩)∧Bw w w':=by
 have hszE:(⟨E.toArray⟩:ByteArray).size=E.length:=rfl;have hw3:IntKind.i64.wrap ((E.length:Int) - p)=(q:Int):=by rw[hq.out,xG3];have:=hq.out;omega
 have hqE:(q:Int)≤(E.length:Int):=by have:=hq.out;omega
 have hqE':q≤E.length:=by omega
 have HQ:Hid (q≤E.length∧E.length≤60000):=⟨hqE',by omega⟩
 have hc2:((⟨E.toArray⟩:ByteArray).extract 0 q).size+(⟨#[46]⟩:ByteArray).size≤9223372036854775807:=by
  rw[qY1,bsz,List.length_take,show(⟨#[46]⟩:ByteArray).size=1 from rfl];have:=HQ.out;omega
 have hc3:((⟨E.toArray⟩:ByteArray).extract 0 q++⟨#[46]⟩).size+((⟨E.toArray⟩:ByteArray).extract q E.length).size≤9223372036854775807:=by
  rw[qY1,qK0,show(⟨#[46]⟩:ByteArray)=⟨[46].toArray⟩from rfl,qQ8,bsz,bsz,xH7,List.length_take,List.length_drop];have:=HQ.out;simp;omega
 have hq0:(0:Int)≤(q:Int):=by omega
 have HB:Hid (Bw w w):=xV9 _ _;have hp9:(p==0)=false:=by rw[xH];exact hp
 clear hp
 go_enter Tryz.func51,Tryz.ntmps51
 go_upto_region 5 with fail
 go_quiet (fail)
 go_wp2
 go_ret;refine⟨?_,qU5 HB.out nq⟩
 show Ending.returned (Value.string _)=Ending.returned (Value.string _)
 rw[qY1,qK0,show(⟨#[46]⟩:ByteArray)=⟨[46].toArray⟩from rfl,qQ8,qQ8,List.append_assoc];rfl
theorem xZ8 (d E:List UInt8) (p:Int) (q:Nat) (w:World) (hd:d.length≤20000) (hp:¬ p=0) (hp0:0≤p) (hp2:p≤20000) (hl:(d.length:Int)≤p) (hE:Hid (E=nzL (p+1 - d.length)++d)) (hq:Hid ((E.length:Int) - p=(q:Int))) :
  Calls Tryz.prog 51 #[.string ⟨d.toArray⟩,.int .i64 p] w fun r w'=>r=.returned (.string ⟨(E.take q++46 :: E.drop q).toArray⟩)∧Bw w w':=by
 have hsz:(⟨d.toArray⟩:ByteArray).size=d.length:=rfl;have hw1:IntKind.i64.wrap (p+1)=p+1:=by rw[xG3];omega
 have hw2:IntKind.i64.wrap (p+1 - (d.length:Int))=p+1 - (d.length:Int):=by rw[xG3];omega
 have kk:=d4nz (p+1 - (d.length:Int)) w (by omega)
 have l1:=qN1 (p+1 - (d.length:Int));have lE:E.length=(p+1 - (d.length:Int)).toNat+d.length:=by rw[hE.out,xH7,l1]
 have hc1:(⟨(nzL (p+1 - (d.length:Int))).toArray⟩:ByteArray).size+d.length≤9223372036854775807:=by simp only[bsz];omega
 have eC:(⟨(nzL (p+1 - (d.length:Int))).toArray⟩:ByteArray)++⟨d.toArray⟩=⟨E.toArray⟩:=by rw[qQ8,←hE.out]
 have hszE:(⟨E.toArray⟩:ByteArray).size=E.length:=rfl;have hw3:IntKind.i64.wrap ((E.length:Int) - p)=(q:Int):=by rw[hq.out,xG3];have:=hq.out;omega
 have hqE:(q:Int)≤(E.length:Int):=by have:=hq.out;omega
 have hqE':q≤E.length:=by omega
 have HQ:Hid (q≤E.length∧E.length≤60000):=⟨hqE',by omega⟩
 have hc2:((⟨E.toArray⟩:ByteArray).extract 0 q).size+(⟨#[46]⟩:ByteArray).size≤9223372036854775807:=by
  rw[qY1,bsz,List.length_take,show(⟨#[46]⟩:ByteArray).size=1 from rfl];have:=HQ.out;omega
 have hc3:((⟨E.toArray⟩:ByteArray).extract 0 q++⟨#[46]⟩).size+((⟨E.toArray⟩:ByteArray).extract q E.length).size≤9223372036854775807:=by
  rw[qY1,qK0,show(⟨#[46]⟩:ByteArray)=⟨[46].toArray⟩from rfl,qQ8,bsz,bsz,xH7,List.length_take,List.length_drop];have:=HQ.out;simp;omega
 have hq0:(0:Int)≤(q:Int):=by omega
 have hp9:(p==0)=false:=by rw[xH];exact hp
 clear hp l1 lE
 go_enter Tryz.func51,Tryz.ntmps51
 go_wp2_with fail;refine kk.mono ?_;rintro r w1 ⟨rfl,hb1⟩;have HB:Hid (Bw w w1):=hb1;clear kk hb1
 go_upto_region 5 with fail
 go_quiet (fail)
 go_wp2
 go_ret;refine⟨?_,qU5 HB.out nq⟩
 show Ending.returned (Value.string _)=Ending.returned (Value.string _)
 rw[qY1,qK0,show(⟨#[46]⟩:ByteArray)=⟨[46].toArray⟩from rfl,qQ8,qQ8,List.append_assoc];rfl
theorem zW (d:List UInt8) (p:Int) (w:World) (hd:d.length≤20000) (hd0:1≤d.length) (hp:0≤p∧p≤20000):Calls Tryz.prog 51 #[.string ⟨d.toArray⟩,.int .i64 p] w fun r w'=>r=.returned (.string ⟨(ptL d p).toArray⟩)∧Bw w w':=by
 have l1:=qN1 (p+1 - (d.length:Int));have lE:(nzL (p+1 - d.length)++d).length=(p+1 - (d.length:Int)).toNat+d.length:=by rw[xH7,l1]
 by_cases hl:(d.length:Int)≤p
 ·by_cases h0:p=0
  ·exfalso;omega
  ·have k:=xZ8 d (nzL (p+1 - d.length)++d) p ((nzL (p+1 - d.length)++d).length - p.toNat) w hd h0 hp.1 hp.2 hl rfl (by show _=_;omega)
   unfold ptL;rw[if_neg (by omega)]
   exact k
 ·by_cases h0:p=0
  ·have h:=yR0 d p w hd h0 (by intro h;rw[h] at hd0;simp at hd0)
   subst h0;have e:ptL d 0=d:=by
    unfold ptL;rw[if_pos (by decide),show nzL (1 - (d.length:Int)) = [] by unfold nzL;rw[show(1 - (d.length:Int)).toNat=0 by omega];rfl,show nzL (-0) = [] from rfl,List.append_nil,List.nil_append]
   rw[e];exact h
  ·have e:nzL (p+1 - d.length)++d=d:=by unfold nzL;rw[show(p+1 - (d.length:Int)).toNat=0 by omega];rfl
   have k:=xZ9 d p (d.length - p.toNat) w (by omega) h0 hp.1 hp.2 hl (by show _=_;omega)
   unfold ptL;rw[if_neg (by omega),e]
   exact k
theorem yA7 (N:Nat) {p:Int} (hp:0≤p):ptL (dcD N) p=ptL (dcR N) p:=by
 unfold dcD;by_cases h0:N=0
 ·subst h0;rw[if_pos rfl,yS9];have e:nzL (p+1 - (([48]:List UInt8).length:Int)) ++ [48]=nzL (p+1 - (([]:List UInt8).length:Int)) ++ []:=by
   unfold nzL;rw[List.append_nil,show(p+1 - (([]:List UInt8).length:Int)).toNat=(p+1 - (([48]:List UInt8).length:Int)).toNat+1 by simp;omega,List.replicate_succ']
  unfold ptL;by_cases h1:p≤0
  ·obtain rfl:p=0:=by omega
   rfl
  ·rw[if_neg h1,if_neg h1,e]
 ·rw[if_neg h0]
theorem zF1 (f:Nat) (p m:Int) (b:Bool) (w:World)
  (kM:∀ W,Calls Tryz.prog 29 #[.int .i64 m] W fun r w'=>r=.returned (.bool b)∧w'=W) (hno:b=false∨p<0∨1100<p) :
  Calls Tryz.prog 19 #[.float .f64 f,.int .i64 p,.int .i64 m] w fun r w'=>r=.returned (.tuple #[.string ⟨#[]⟩,.int .i64 1])∧Bw w w':=by
 cases b
 ·clear hno
  go_enter Tryz.func19,Tryz.ntmps19
  go_wp2_with (go_at_call 29;refine(kM _).mono ?_;rintro r w' ⟨rfl,hw⟩;replace hw:=hw.symm;subst hw)
  refine xG6 (xF rfl _ _ _) rfl ?_;exact⟨rfl,xV9 _ _⟩
 ·rcases(by simpa using hno:p<0∨1100<p)with h|h
  ·clear hno
   go_enter Tryz.func19,Tryz.ntmps19
   go_wp2_with (go_at_call 29;refine(kM _).mono ?_;rintro r w' ⟨rfl,hw⟩;replace hw:=hw.symm;subst hw)
   refine xG6 (xF rfl _ _ _) rfl ?_;exact⟨rfl,xV9 _ _⟩
  ·have h0:¬ p<0:=by omega
   clear hno
   go_enter Tryz.func19,Tryz.ntmps19
   go_wp2_with (go_at_call 29;refine(kM _).mono ?_;rintro r w' ⟨rfl,hw⟩;replace hw:=hw.symm;subst hw)
   refine xG6 (xF rfl _ _ _) rfl ?_;exact⟨rfl,xV9 _ _⟩
theorem qO5 (f:Nat) (p m:Int) (t:ByteArray) (w:World) (h0:¬ p<0) (h1:¬ 1100<p)
  (kM:∀ W,Calls Tryz.prog 29 #[.int .i64 m] W fun r w'=>r=.returned (.bool true)∧w'=W)
  (kW:∀ W,Calls Tryz.prog 38 #[.float .f64 f] W fun r w'=>r=.returned (.tuple #[.string t,.bool true])∧w'=W) :
  Calls Tryz.prog 19 #[.float .f64 f,.int .i64 p,.int .i64 m] w fun r w'=>r=.returned (.tuple #[.string t,.int .i64 0])∧Bw w w':=by
 go_enter Tryz.func19,Tryz.ntmps19
 go_wp2_with (first|(go_at_call 29;refine(kM _).mono ?_;rintro r w' ⟨rfl,hw⟩;replace hw:=hw.symm;subst hw)|(go_at_call 38;refine(kW _).mono ?_;rintro r w' ⟨rfl,hw⟩;replace hw:=hw.symm;subst hw))
 refine xG6 (xF rfl _ _ _) rfl ?_;exact⟨rfl,xV9 _ _⟩
theorem zW1 (f:Nat) (p m:Int) (ng:Bool) (sg D T R:ByteArray) (tA tN:Bool×Nat×Int) (w:World) (h0:¬ p<0) (h1:¬ 1100<p)
  (kM:∀ W,Calls Tryz.prog 29 #[.int .i64 m] W fun r w'=>r=.returned (.bool true)∧w'=W)
  (kW:∀ W,Calls Tryz.prog 38 #[.float .f64 f] W fun r w'=>r=.returned (.tuple #[.string sg,.bool false])∧w'=W)
  (kA:Hid (∀ W,Calls Tryz.prog 46 #[.float .f64 f] W fun r w'=>OutQ W tA r w'))
  (kS:∀ W,Calls Tryz.prog 63 #[.float .f64 f] W fun r w'=>r=.returned (.bool ng)∧w'=W)
  (kR:Hid (∀ W X,DN W X tA→Calls Tryz.prog 62 #[X,.int .i64 p,.bool ng,.int .i64 m] W fun r w'=>OutQ W tN r w'))
  (kD:Hid (∀ W X,DN W X tN→Calls Tryz.prog 47 #[X] W fun r w'=>r=.returned (.string D)∧Bw W w'))
  (kP:Hid (∀ W,Calls Tryz.prog 51 #[.string D,.int .i64 p] W fun r w'=>r=.returned (.string T)∧Bw W w'))
  (hsz:sg.size+T.size≤9223372036854775807) (hR:Hid (sg++T=R)) :
  Calls Tryz.prog 19 #[.float .f64 f,.int .i64 p,.int .i64 m] w fun r w'=>r=.returned (.tuple #[.string R,.int .i64 0])∧Bw w w':=by
 have q1:=kA.out w
 go_enter Tryz.func19,Tryz.ntmps19
 go_wp2_with (first|(go_at_call 29;refine(kM _).mono ?_;rintro r w' ⟨rfl,hw⟩;replace hw:=hw.symm;subst hw)|(go_at_call 38;refine(kW _).mono ?_;rintro r w' ⟨rfl,hw⟩;replace hw:=hw.symm;subst hw))
 refine q1.mono ?_;rintro r w1 ⟨s1,ao1,n1,cp1,e1,rfl,hd1,hb1⟩;have HB1:Hid (Bw w w1):=hb1;have q2:=kR.out w1 _ hd1;clear q1 hd1 hb1 kM kW
 go_wp2_with (go_at_call 63;refine(kS _).mono ?_;rintro r w' ⟨rfl,hw⟩;replace hw:=hw.symm;subst hw)
 refine q2.mono ?_;rintro r w2 ⟨s2,ao2,n2,cp2,e2,rfl,hd2,hb2⟩;obtain⟨V,hV⟩:∃ V,V=w2.alloc (.cells #[.bool s2,.slice ao2 n2 cp2,.int .i64 e2] 69):=⟨_,rfl⟩;obtain⟨g,hg⟩:∃ g,g=w2.heap.size:=⟨_,rfl⟩;have H2:Hid (NbQ V g s2 ao2 n2 cp2 e2 tN∧Bw w V):=by
  have hbV:Bw w2 V:=by rw[hV];exact(xV9 _ _).alloc (xV8 _) _
  have hb:=hb2.trans (hbV.mono hb2.size);exact⟨⟨by rw[hV,hg];exact xG5 _ _,hd2.later hbV⟩,HB1.out.trans (hb.mono HB1.out.size)⟩
 clear q2 hd2 hb2 HB1 kS
 go_upto_region 7 with fail;rw[←hV,←hg];clear hV hg;obtain⟨⟨c0,c1,c2⟩,-⟩:=qQ0 H2.out.1.1;have q1:=kD.out V _ H2.out.1.2
 go_wp2_with fail;refine q1.mono ?_;rintro r w3 ⟨rfl,hb3⟩;have HB3:Hid (Bw w w3):=H2.out.2.trans (hb3.mono H2.out.2.size);have q2:=kP.out w3;clear q1 hb3 H2 c0 c1 c2
 go_wp2_with fail;refine q2.mono ?_;rintro r w4 ⟨rfl,hb4⟩;have HB4:Hid (Bw w w4):=HB3.out.trans (hb4.mono HB3.out.size);clear q2 hb4 HB3
 go_wp2_with fail;refine xG6 (xF rfl _ _ _) rfl ?_;exact⟨by rw[←hR.out];rfl,HB4.out⟩
theorem zW5 {a:Nat} (hf:9218868437227405312<mag a):cls a=1:=by
 unfold cls;rw[if_pos (by omega)]
theorem zW6 {a:Nat} (hf:mag a=9218868437227405312):cls a=2∧cneg a=neg a:=by
 have h1:¬ (9218868437227405312:Int)<(mag a:Int):=by omega
 unfold cls cneg;rw[if_neg h1,if_neg h1];have h2:((mag a:Int)==9218868437227405312)=true:=by rw[beq_iff_eq];omega
 rw[h2];exact⟨by simp,rfl⟩
theorem zN7 {a:Nat} (ha:a<18446744073709551616) (h:mag a=9218868437227405312):(FloatKind.f64.format.order a a != some Ordering.eq)=false∧((FloatKind.f64.format.order a 9218868437227405311==some Ordering.gt)=true∨((FloatKind.f64.format.order a 9218868437227405311==some Ordering.gt)=false∧(FloatKind.f64.format.order a 18442240474082181119==some Ordering.lt)=true)):=by
 have e1:stp 9218868437227405311=9218868437227405311:=by decide
 have e2:stp 18442240474082181119 = -9218868437227405311:=by decide
 have hn:qK2 a=false:=by unfold qK2;exact xU0 (by omega)
 have hs:stp a=if neg a then -(mag a:Int) else(mag a:Int):=by unfold stp sgn;rfl
 have o1:=qA9 a a ha ha;have o2:=yU3 a 9218868437227405311 ha (by decide)
 have o3:=yU2 a 18442240474082181119 ha (by decide)
 unfold eq at o1;unfold lt at o2 o3;rw[e1] at o2;rw[e2] at o3;rw[hn] at o1 o2 o3;rw[hs,h] at o2 o3;refine⟨?_,?_⟩
 ·show(!(FloatKind.f64.format.order a a==some Ordering.eq))=false
  rw[o1];simp
 ·cases hg:neg a
  ·rw[hg] at o2;exact .inl (by rw[o2];decide)
  ·rw[hg] at o2 o3;exact .inr ⟨by rw[o2];decide,by rw[o3];decide⟩
theorem zN6 {a:Nat} (ha:a<18446744073709551616) (h:9218868437227405312<mag a):(FloatKind.f64.format.order a a != some Ordering.eq)=true:=by
 have hn:qK2 a=true:=by unfold qK2;exact xU1 (by omega)
 have o1:=qA9 a a ha ha;unfold eq at o1;rw[hn] at o1;show(!(FloatKind.f64.format.order a a==some Ordering.eq))=true
 rw[o1];rfl
def fxT (a:Nat) (p m:Int):List UInt8:=if 9218868437227405312<mag a then [110,97,110] else if mag a=9218868437227405312 then sgL (neg a) [105,110,102] else sgL (neg a) (ptL (dcT (uN a p m)) p)
def fxA (a:Nat) (p m:Int):List UInt8×Int:=if 1≤m∧m≤3∧0≤p∧p≤1100 then(fxT a p m,0) else([],1)
theorem xQ3 {a:Nat} {p m:Int} (h:¬ (1≤m∧m≤3∧0≤p∧p≤1100)):decide (1≤m∧m≤3)=false∨p<0∨1100<p:=by
 by_cases h1:1≤m∧m≤3
 ·exact .inr (by omega)
 ·exact .inl (xU0 h1)
theorem yL0 {a:Nat} (p m:Int) {w:World} (hT:Tab32 w) (hI:Ie.Tab w) (ha:a<18446744073709551616) :
  Calls Tryz.prog 18 #[.float .f64 a,.int .i64 p,.int .i64 m] w fun r w'=>r=.returned (.tuple #[.string ⟨(fxA a p m).1.toArray⟩,.int .i64 (fxA a p m).2])∧Bw w w':=by
 unfold fxA;by_cases h:1≤m∧m≤3∧0≤p∧p≤1100
 ·rw[if_pos h];have k0:=qS3 m;rw[xU1 (show 1≤m∧m≤3 by omega)] at k0
  unfold fxT;rcases(by omega:9218868437227405312<mag a∨mag a=9218868437227405312∨mag a<9218868437227405312)with hf|hf|hf
  ·rw[if_pos hf];refine qA1 a p m _ w (by omega) (by omega) k0 ?_
   intro W g1 g2 g3 hW b1 b2 b3;have kC:=fun V=>Ie.c9 a ha V;rw[zW5 hf] at kC;refine(zQ3 a _ _ W kC).mono ?_
   rintro r w' ⟨rfl,rfl⟩;exact⟨rfl,xV9 _ _⟩
  ·rw[if_neg (by omega),if_pos hf]
   obtain⟨c1,c2⟩:=zW6 hf;refine qA1 a p m _ w (by omega) (by omega) k0 ?_
   intro W g1 g2 g3 hW b1 b2 b3;have kC:=fun V=>Ie.c9 a ha V;rw[c1,c2] at kC;refine(zQ4 a _ _ W kC).mono ?_
   rintro r w' ⟨rfl,rfl⟩;exact⟨rfl,xV9 _ _⟩
  ·rw[if_neg (by omega),if_neg (by omega)]
   exact yH3 hT hI ha hf (by omega) (by omega) (by omega)
 ·rw[if_neg h];exact zA2 a p m _ w (qS3 m) (xQ3 (a:=a) h)
theorem yC1 (s:Bool) (t:List UInt8):(if s then(⟨#[45]⟩:ByteArray) else⟨#[]⟩)++⟨t.toArray⟩=⟨(sgL s t).toArray⟩:=by
 cases s
 ·exact qQ8 [] t
 ·exact qQ8 [45] t
theorem yR {N b:Nat} (h:N<2^b):(dcD N).length≤18*(b / 59+1)∧1≤(dcD N).length:=by
 unfold dcD;by_cases h0:N=0
 ·rw[if_pos h0];simp;omega
 ·rw[if_neg h0];have h1:=zY0 h;rw[zL9] at h1;refine⟨h1,?_⟩
  rcases Nat.lt_or_ge 0 (dcR N).length with h2|h2
  ·exact h2
  ·exact absurd (qE2.1 (List.length_eq_zero_iff.1 (by omega))) h0
theorem yZ7 {a:Nat} (p m:Int) (w:World) (ha:a<18446744073709551616) :
  Calls Tryz.prog 19 #[.float .f64 a,.int .i64 p,.int .i64 m] w fun r w'=>r=.returned (.tuple #[.string ⟨(fxA a p m).1.toArray⟩,.int .i64 (fxA a p m).2])∧Bw w w':=by
 unfold fxA;by_cases h:1≤m∧m≤3∧0≤p∧p≤1100
 ·rw[if_pos h];have k0:=zU9 m;rw[xU1 (show 1≤m∧m≤3 by omega)] at k0
  unfold fxT;rcases(by omega:9218868437227405312<mag a∨mag a=9218868437227405312∨mag a<9218868437227405312)with hf|hf|hf
  ·rw[if_pos hf];exact qO5 a p m _ w (by omega) (by omega) k0 (fun W=>qW2 a (neg a) W (fun W=>Ie.c33 a ha W) (zN6 ha hf))
  ·rw[if_neg (by omega),if_pos hf]
   obtain⟨o1,o2⟩:=zN7 ha hf;exact qO5 a p m _ w (by omega) (by omega) k0 (fun W=>qW3 a (neg a) W (fun W=>Ie.c33 a ha W) o1 o2)
  ·rw[if_neg (by omega),if_neg (by omega)]
   have hN:=zG5 (a:=a) (m:=m) (pl:=p) (by omega) (by omega)
   have e:=yF0 (a:=a) (k:=p) (m:=m) (by omega)
   rw[zL9,←yA7 _ (by omega)]
   rw[e] at hN ⊢;obtain⟨l1,l2⟩:=yR hN;have l3:=xU7 l1 dk5;have l4:=zV6 (d:=dcD (rdN (fU a) p (neg a) m)) (p:=p);refine zW1 a p m (neg a) _ ⟨(dcD (rdN (fU a) p (neg a) m)).toArray⟩ ⟨(ptL (dcD (rdN (fU a) p (neg a) m)) p).toArray⟩ _ _ _ w (by omega) (by omega) k0 (fun W=>yG3 ha hf W) (fun W=>yR4 ha W) (fun W=>Ie.c33 a ha W) (fun W X hX=>qO4 (qT4 a) (by omega) (by omega) hX) (fun W X hX=>zU7 hX hN dk6) (fun W=>zW _ p W (by omega) l2 (by omega)) ?_ (yC1 _ _)
   have e9:=bsz (ptL (dcD (rdN (fU a) p (neg a) m)) p);have e8:(if neg a=true then(⟨#[45]⟩:ByteArray) else⟨#[]⟩).size≤1:=by split;exact xV8 1;exact xG2 1
   omega
 ·rw[if_neg h];exact zF1 a p m _ w (zU9 m) (xQ3 (a:=a) h)
theorem zW0 (s0:Bool) (ao0:Option Addr) (n0 cp0:Nat) (e0:Int) (hh x0 X:Int) (ta tw1 tw2:Bool×Nat×Int) (tS:Int→Bool×Nat×Int) (bS:Int→Bool) (c1 c2:Int→Int) (w:World) (hA:DN w (.agg #[.bool s0,.slice ao0 n0 cp0,.int .i64 e0]) ta)
  (hh1 : -5000≤hh∧hh≤5000) (hx0:Int.tdiv ((hh - 1)*30103) 100000=x0) (hxb:Hid (-400≤x0∧x0≤400 ∧ -400≤X∧X≤400))
  (kH:∀ W A,DN W A ta→Calls Tryz.prog 55 #[A] W fun r w'=>r=.returned (.int .i64 hh)∧Bw W w')
  (kS:Hid (∀ x,-400≤x→x≤400→∀ W A,DN W A ta→Calls Tryz.prog 93 #[A,.int .i64 (-x+1)] W fun r w'=>OutS W (tS x) (bS x) r w'))
  (kW1:Hid (∀ W,Calls Tryz.prog 57 #[.int .i64 10] W fun r w'=>OutQ W tw1 r w'))
  (kW2:Hid (∀ W,Calls Tryz.prog 57 #[.int .i64 100] W fun r w'=>OutQ W tw2 r w'))
  (kO1:Hid (∀ x,-400≤x→x≤400→∀ W A B,DN W A (tS x)→DN W B tw1→Calls Tryz.prog 60 #[A,B] W fun r w'=>r=.returned (.int .i64 (c1 x))∧Bw W w'))
  (kO2:Hid (∀ x,-400≤x→x≤400→∀ W A B,DN W A (tS x)→DN W B tw2→Calls Tryz.prog 60 #[A,B] W fun r w'=>r=.returned (.int .i64 (c2 x))∧Bw W w'))
  (hc:Hid (∀ x,-400≤x→x≤400→(X<x→c1 x<0)∧(x<X→0≤c1 x∧0≤c2 x)∧(x=X→0≤c1 x∧c2 x<0))) :
  Calls Tryz.prog 68 #[.agg #[.bool s0,.slice ao0 n0 cp0,.int .i64 e0]] w fun r w'=>r=.returned (.int .i64 X)∧Bw w w':=by
 obtain⟨W,hW⟩:∃ W,W=w.alloc (.cells #[.bool s0,.slice ao0 n0 cp0,.int .i64 e0] 69):=⟨_,rfl⟩;have H0:Hid (NbQ W w.heap.size s0 ao0 n0 cp0 e0 ta∧Bw w W):=by
  have hb:Bw w W:=by rw[hW];exact(xV9 _ _).alloc (xV8 _) _
  exact⟨⟨by rw[hW];exact xG5 _ _,hA.later hb⟩,hb⟩
 obtain⟨⟨c0,c1',c2'⟩,-⟩:=qQ0 H0.out.1.1;have q1:=kH W _ H0.out.1.2;have u1:IntKind.i64.wrap (hh - 1)=hh - 1:=by rw[xG3];omega
 have u2:IntKind.i64.wrap ((hh - 1)*30103)=(hh - 1)*30103:=by rw[xG3];omega
 have u3:IntKind.i64.wrap x0=x0:=by have:=hxb.out;rw[xG3];omega
 clear kH hA
 go_enter Tryz.func68,Tryz.ntmps68
 go_upto_region 1 with fail;rw[←hW];clear hW
 go_wp2_with fail;refine q1.mono ?_;rintro r w1 ⟨rfl,hb1⟩;have H1:Hid (NbQ w1 w.heap.size s0 ao0 n0 cp0 e0 ta∧Bw w w1):=⟨H0.out.1.later hb1,H0.out.2.trans (hb1.mono H0.out.2.size)⟩;clear q1 hb1 H0 c0 c1' c2' hh1
 go_wp2_with fail;clear u1 u2 u3 hx0
 go_loopw [3] (fun v wr=>∃ x:Int,v=.int .i64 x ∧ -400≤x∧x≤400∧Hid (NbQ wr w.heap.size s0 ao0 n0 cp0 e0 ta∧Bw w wr)) (fun v _=>(intOf v - X).natAbs)
 case atStart=>exact⟨x0,rfl,hxb.out.1,hxb.out.2.1,H1⟩
 case round =>
  obtain⟨x,rfl,hx1,hx2,HI⟩:=hrel;clear H1;obtain⟨⟨c0,c1',c2'⟩,-⟩:=qQ0 HI.out.1.1;have q1:=kS.out x hx1 hx2 wr _ HI.out.1.2;have u1:IntKind.i64.wrap (-x) = -x:=by rw[xG3];omega
  have u2:IntKind.i64.wrap (-x+1) = -x+1:=by rw[xG3];omega
  have u3:IntKind.i64.wrap (x - 1)=x - 1:=by rw[xG3];omega
  have u4:IntKind.i64.wrap (x+1)=x+1:=by rw[xG3];omega
  have hx1:Hid (-400≤x∧x≤400):=⟨hx1,hx2⟩;clear hx2
  go_upto_region 2 with fail
  go_wp2_with fail;refine q1.mono ?_;rintro r w2 ⟨s1,ao1,n1,cp1,e1,rfl,hd2,hb2⟩;obtain⟨V,hV⟩:∃ V,V=w2.alloc (.cells #[.bool s1,.slice ao1 n1 cp1,.int .i64 e1] 69):=⟨_,rfl⟩;obtain⟨g4,hg4⟩:∃ g4,g4=w2.heap.size:=⟨_,rfl⟩;have H2:Hid (NbQ V w.heap.size s0 ao0 n0 cp0 e0 ta∧NbQ V g4 s1 ao1 n1 cp1 e1 (tS x)∧Bw w V):=by
   have hbV:Bw w2 V:=by rw[hV];exact(xV9 _ _).alloc (xV8 _) _
   have hb:=hb2.trans (hbV.mono hb2.size);exact⟨HI.out.1.later hb,⟨by rw[hV,hg4];exact xG5 _ _,hd2.later hbV⟩,HI.out.2.trans (hb.mono HI.out.2.size)⟩
  clear q1 hd2 hb2 HI c0 c1' c2'
  go_upto_region 4 with fail;rw[←hV,←hg4];clear hV hg4;obtain⟨b1,hb1⟩:∃ b1,b1=decide (c1 x<0):=⟨_,rfl⟩;have hbe1:decide (c1 x<0)=b1:=hb1.symm;have HB1:Hid (b1=decide (c1 x<0)):=hb1;clear hb1;refine qG8 [0,1,2,3,4] [21,22,23,24,20] [[],[],[0,1],[2],[3]] V _ [isV (.agg #[.bool s1,.slice ao1 n1 cp1,.int .i64 e1]),isD tw1,isV (.int .i64 (c1 x)),isV (.bool b1),isV (.bool b1)] (by kernel_rfl) ⟨qQ3 _,qY _,qQ3 _,qQ3 _,qQ3 _,trivial⟩ (by show ∀ s ∈ [21,22,23,24,20],s<34;decide) ?_ ?_
  ·intro j hj o ho act U hb hoth hdep;have hj':j<5:=hj;have t4':act.tmps[(4:Nat)]?=some (Value.pointer (some ⟨g4,0,none⟩)):=(hoth 4 (by decide)).trans rfl
   have d4:=(qQ0 (H2.out.2.1.later hb).1).1;rcases(by omega:j=0∨j=1∨j=2∨j=3∨j=4)with rfl|rfl|rfl|rfl|rfl
   ·obtain rfl:=xU ho;exact .inl ⟨rfl,qU1 rfl t4' d4.1 d4.2.1 d4.2.2 ⟨_,rfl,rfl,xV9 _ _⟩⟩
   ·obtain rfl:=xU ho;refine .inl ⟨rfl,qZ rfl (qZ4 Tryz.func57 (by kernel_rfl) (by kernel_rfl)) (vs:=#[(Value.int IntKind.i64 10)]) (by simp[qV8]) ?_⟩
    refine(kW1.out U).mono ?_
    rintro r w' ⟨s9,ao9,n9,cp9,e9,rfl,hA9,hb'⟩;exact⟨_,rfl,_,rfl,hA9,hb'⟩
   ·obtain rfl:=xU ho;have y0:act.tmps[(21:Nat)]?=_:=dV (hdep 0 (by simp[dL])) rfl
    obtain⟨u1,y10,v1⟩:=hdep 1 (by simp[dL])
    have y1:act.tmps[(22:Nat)]?=_:=y10;refine .inl ⟨rfl,qZ rfl (qZ4 Tryz.func60 (by kernel_rfl) (by kernel_rfl)) (vs:=#[.agg #[.bool s1,.slice ao1 n1 cp1,.int .i64 e1],u1]) (by simp[qZ1 y0,qZ1 y1]) ?_⟩
    refine(kO1.out x hx1.out.1 hx1.out.2 U _ _ (H2.out.2.1.later hb).2 v1).mono ?_
    rintro r w' ⟨rfl,hb'⟩;exact⟨_,rfl,_,rfl,rfl,hb'⟩
   ·obtain rfl:=xU ho;have y2:act.tmps[(23:Nat)]?=_:=dV (hdep 2 (by simp[dL])) rfl
    exact .inl ⟨rfl,qX3 (w':=U) (by simp[execOp,y2,qV8,go_sem,hbe1]) ⟨_,rfl,rfl,xV9 _ _⟩⟩
   ·obtain rfl:=xU ho;have y3:act.tmps[(24:Nat)]?=_:=dV (hdep 3 (by simp[dL])) rfl
    exact .inl ⟨rfl,qX6 rfl y3 ⟨_,rfl,rfl,xV9 _ _⟩⟩
  ·intro u W9 hb9 hu;have u4:u 4=.bool b1:=hu 4 (by show 4<5;decide)
   clear hu;simp only[putL,show List.range 5 = [0,1,2,3,4] from rfl,List.length_cons,List.length_nil,List.getD_cons_zero,List.getD_cons_succ,List.map_cons,List.map_nil,List.cons_append,List.nil_append,List.foldl_cons,List.foldl_nil,Nat.reduceLT,Nat.reduceMod,Nat.reduceDiv,Nat.reduceMul,Nat.reduceAdd,Nat.reduceEqDiff,reduceIte,Nat.one_ne_zero,Act.put,List.setIfInBounds_toArray,List.set_cons_zero,List.set_cons_succ];rw[u4];clear u4;have H3:Hid (NbQ W9 w.heap.size s0 ao0 n0 cp0 e0 ta∧NbQ W9 g4 s1 ao1 n1 cp1 e1 (tS x)∧Bw w W9):=⟨H2.out.1.later hb9,H2.out.2.1.later hb9,H2.out.2.2.trans (hb9.mono H2.out.2.2.size)⟩;clear hb9 H2 hbe1;rcases(by cases b1 <;> simp:b1=true∨b1=false)with hE|hE
   ·subst hE;have hxX:Hid (¬ x≤X):=(fun h=>by
     have h1:=hc.out x hx1.out.1 hx1.out.2;have h2:c1 x<0:=of_decide_eq_true HB1.out.symm;rcases(by omega:x<X∨x=X)with h3|h3
     ·have:=(h1.2.1 h3).1;omega
     ·have:=(h1.2.2 h3).1;omega:¬ x≤X)
    clear HB1
    go_wp2_with fail;exact⟨⟨x - 1,rfl,by have:=hxX.out;have:=hxb.out;omega,by have:=hx1.out;omega,H3.out.1,H3.out.2.2⟩,by have:=hxX.out;simp[intOf];omega⟩
   ·subst hE;have hxX:Hid (x≤X):=(by
     have h1:=hc.out x hx1.out.1 hx1.out.2;have h2:¬ c1 x<0:=of_decide_eq_false HB1.out.symm;exact Int.not_lt.1 fun h=>h2 (h1.1 h):x≤X)
    clear HB1
    go_upto_region 6 with fail;obtain⟨V,hV⟩:∃ V,V=W9:=⟨_,rfl⟩;rw[←hV] at H3 ⊢;clear hV;have H2:=H3;clear H3;obtain⟨b2,hb1⟩:∃ b2,b2=decide (0≤c2 x):=⟨_,rfl⟩;have hbe1:decide (0≤c2 x)=b2:=hb1.symm;have HB1:Hid (b2=decide (0≤c2 x)):=hb1;clear hb1;refine qG8 [0,1,2,3,4] [28,29,30,31,27] [[],[],[0,1],[2],[3]] V _ [isV (.agg #[.bool s1,.slice ao1 n1 cp1,.int .i64 e1]),isD tw2,isV (.int .i64 (c2 x)),isV (.bool b2),isV (.bool b2)] (by kernel_rfl) ⟨qQ3 _,qY _,qQ3 _,qQ3 _,qQ3 _,trivial⟩ (by show ∀ s ∈ [28,29,30,31,27],s<34;decide) ?_ ?_
    ·intro j hj o ho act U hb hoth hdep;have hj':j<5:=hj;have t4':act.tmps[(4:Nat)]?=some (Value.pointer (some ⟨g4,0,none⟩)):=(hoth 4 (by decide)).trans rfl
     have d4:=(qQ0 (H2.out.2.1.later hb).1).1;rcases(by omega:j=0∨j=1∨j=2∨j=3∨j=4)with rfl|rfl|rfl|rfl|rfl
     ·obtain rfl:=xU ho;exact .inl ⟨rfl,qU1 rfl t4' d4.1 d4.2.1 d4.2.2 ⟨_,rfl,rfl,xV9 _ _⟩⟩
     ·obtain rfl:=xU ho;refine .inl ⟨rfl,qZ rfl (qZ4 Tryz.func57 (by kernel_rfl) (by kernel_rfl)) (vs:=#[(Value.int IntKind.i64 100)]) (by simp[qV8]) ?_⟩
      refine(kW2.out U).mono ?_
      rintro r w' ⟨s9,ao9,n9,cp9,e9,rfl,hA9,hb'⟩;exact⟨_,rfl,_,rfl,hA9,hb'⟩
     ·obtain rfl:=xU ho;have y0:act.tmps[(28:Nat)]?=_:=dV (hdep 0 (by simp[dL])) rfl
      obtain⟨u1,y10,v1⟩:=hdep 1 (by simp[dL])
      have y1:act.tmps[(29:Nat)]?=_:=y10;refine .inl ⟨rfl,qZ rfl (qZ4 Tryz.func60 (by kernel_rfl) (by kernel_rfl)) (vs:=#[.agg #[.bool s1,.slice ao1 n1 cp1,.int .i64 e1],u1]) (by simp[qZ1 y0,qZ1 y1]) ?_⟩
      refine(kO2.out x hx1.out.1 hx1.out.2 U _ _ (H2.out.2.1.later hb).2 v1).mono ?_
      rintro r w' ⟨rfl,hb'⟩;exact⟨_,rfl,_,rfl,rfl,hb'⟩
     ·obtain rfl:=xU ho;have y2:act.tmps[(30:Nat)]?=_:=dV (hdep 2 (by simp[dL])) rfl
      exact .inl ⟨rfl,qX3 (w':=U) (by simp[execOp,y2,qV8,go_sem,hbe1]) ⟨_,rfl,rfl,xV9 _ _⟩⟩
     ·obtain rfl:=xU ho;have y3:act.tmps[(31:Nat)]?=_:=dV (hdep 3 (by simp[dL])) rfl
      exact .inl ⟨rfl,qX6 rfl y3 ⟨_,rfl,rfl,xV9 _ _⟩⟩
    ·intro u W9 hb9 hu;have u4:u 4=.bool b2:=hu 4 (by show 4<5;decide)
     clear hu;simp only[putL,show List.range 5 = [0,1,2,3,4] from rfl,List.length_cons,List.length_nil,List.getD_cons_zero,List.getD_cons_succ,List.map_cons,List.map_nil,List.cons_append,List.nil_append,List.foldl_cons,List.foldl_nil,Nat.reduceLT,Nat.reduceMod,Nat.reduceDiv,Nat.reduceMul,Nat.reduceAdd,Nat.reduceEqDiff,reduceIte,Nat.one_ne_zero,Act.put,List.setIfInBounds_toArray,List.set_cons_zero,List.set_cons_succ];rw[u4];clear u4;have H3:Hid (NbQ W9 w.heap.size s0 ao0 n0 cp0 e0 ta∧NbQ W9 g4 s1 ao1 n1 cp1 e1 (tS x)∧Bw w W9):=⟨H2.out.1.later hb9,H2.out.2.1.later hb9,H2.out.2.2.trans (hb9.mono H2.out.2.2.size)⟩;clear hb9 H2 hbe1;rcases(by cases b2 <;> simp:b2=true∨b2=false)with hE|hE
     ·subst hE;have hxX2:Hid (x<X):=(by
       have h1:=hc.out x hx1.out.1 hx1.out.2;have h2:0≤c2 x:=of_decide_eq_true HB1.out.symm;rcases(by have:=hxX.out;omega:x<X∨x=X)with h3|h3
       ·exact h3
       ·have:=(h1.2.2 h3).2;omega:x<X)
      clear HB1
      go_wp2_with fail;exact⟨⟨x+1,rfl,by have:=hx1.out;omega,by have:=hxX2.out;have:=hxb.out;omega,H3.out.1,H3.out.2.2⟩,by have:=hxX2.out;simp[intOf];omega⟩
     ·subst hE;have hxX2:x=X:=by
       have h1:=hc.out x hx1.out.1 hx1.out.2;have h2:¬ 0≤c2 x:=of_decide_eq_false HB1.out.symm;rcases(by have:=hxX.out;omega:x<X∨x=X)with h3|h3
       ·have:=(h1.2.1 h3).2;omega
       ·exact h3
      have HX:Hid (x=X):=hxX2;clear HB1 hxX2
      go_wp2_with fail
      go_ret;exact⟨by rw[←HX.out];rfl,H3.out.2.2⟩
theorem qM4 (A:Nat) (k:Int):scF A k=scF A (k+1) / 10:=by
 unfold scF;rw[xG8];rcases Int.lt_or_le k 0 with h|h
 ·have e1:tnO k=tnO (k+1):=by unfold tnO;rw[show k.toNat=0 by omega,show(k+1).toNat=0 by omega]
  have e2:tnU k=tnU (k+1)*10:=by unfold tnU;rw[show(-k).toNat=(-(k+1)).toNat+1 by omega,xH2]
  rw[e1,e2];generalize kU=K;rw[Nat.mul_right_comm]
 ·have e1:tnO (k+1)=tnO k*10:=by unfold tnO;rw[show(k+1).toNat=k.toNat+1 by omega,xH2]
  have e2:tnU (k+1)=tnU k:=by unfold tnU;rw[show(-k).toNat=0 by omega,show(-(k+1)).toNat=0 by omega]
  rw[e1,e2];generalize kU=K;rw[←xH3,Nat.mul_div_mul_right _ _ (by decide)]
theorem qR (A:Nat) (k:Int):∀ j:Nat,scF A (k - (j:Int))=scF A k / 10^j
 | 0=>by simp
 | j+1=>by
  have h:=qM4 A (k - ((j+1:Nat):Int));rw[show k - ((j+1:Nat):Int)+1=k - (j:Int) by omega,qR A k j,xG8] at h
  rw[h,xH2]
def woZ (b:Nat):Int:=((b:Nat) - (kP:Int) - 1)*1262611 / 4194304
def woC (b:Nat):Bool:=Nat.ble (tnU (-woZ b)*kU) (2^(b - 1)*tnO (-woZ b))&&Nat.ble (2^b*tnO (-woZ b - 2)) (tnU (-woZ b - 2)*kU)
theorem yL1:(List.range 2200).all (fun i=>woC (i+1))=true:=by decide +kernel
theorem wo_b {b:Nat} (h1:1≤b) (h2:b≤2200):tnU (-woZ b)*kU≤2^(b - 1)*tnO (-woZ b)∧2^b*tnO (-woZ b - 2)≤tnU (-woZ b - 2)*kU:=by
 have h:=List.all_eq_true.1 yL1 (b - 1) (List.mem_range.2 (by omega))
 rw[show b - 1+1=b by omega] at h
 unfold woC at h;obtain⟨h3,h4⟩:=Bool.and_eq_true_iff.1 h;exact⟨Nat.le_of_ble_eq_true h3,Nat.le_of_ble_eq_true h4⟩
theorem yL7 (A:Nat) (k:Int):unF (A:Int) (tnO k) (tnU k)=((scF A k:Nat):Int):=by
 unfold unF scF;rw[yQ1,←xH5,←Int.natCast_ediv]
theorem yR9 {A:Nat} (h0:A≠0):2^(bl A - 1)≤A∧A<2^bl A:=by
 have h1:=(qN4 A (bl A)).1 (xV8 _);refine⟨?_,h1⟩
 rcases Nat.lt_or_ge A (2^(bl A - 1))with h|h
 ·have h2:=(qN4 A (bl A - 1)).2 h;have h3:bl A=0:=by omega
  rw[h3] at h1;simp at h1
  omega
 ·exact h
theorem qS7 {A:Nat} (hA:A<2^bU) (h0:A≠0):10≤scF A (1 - woX A)∧scF A (1 - woX A)≤99 ∧ -400≤woX A∧woX A≤400:=by
 obtain⟨b1,b2⟩:=yX4 hA h0;obtain⟨w1,w2⟩:=wo_b b1 b2;obtain⟨t1,t2⟩:=yR9 h0;have hZ:woX0 A=woZ (bl A):=rfl;have hx : -399≤woX0 A∧woX0 A≤399:=by
  have hk:=qD9;unfold woX0;generalize kP=x at *;omega
 have g1:1≤scF A (-woX0 A):=by
  unfold scF;rw[Nat.one_le_div_iff (zZ2 _)];rw[hZ];exact xU7 w1 (xU4 _ t1)
 have g2:scF A (-woX0 A - 2)=0:=by
  unfold scF;refine Nat.div_eq_of_lt ?_;rw[hZ];refine xU5 (xF0 t2 (Nat.pow_pos (by decide))) w2
 have g3:=qM4 A (-woX0 A - 2);rw[show -woX0 A - 2+1 = -woX0 A - 1 by omega] at g3
 have g4:=qM4 A (-woX0 A - 1);rw[show -woX0 A - 1+1 = -woX0 A by omega] at g4
 have hF:=yL7 A (-woX0 A - 1);have key:∀ X:Int,1≤scF A (-X)→scF A (-X)≤9→10≤scF A (1 - X)∧scF A (1 - X)≤99:=by
  intro X k1 k2;have k3:=qM4 A (-X);rw[show -X+1=1 - X by omega] at k3
  omega
 unfold woX;rw[hF];by_cases h:0<((scF A (-woX0 A - 1):Nat):Int)
 ·rw[if_pos h];have:=key (woX0 A+1) (by rw[show -(woX0 A+1) = -woX0 A - 1 by omega];omega) (by rw[show -(woX0 A+1) = -woX0 A - 1 by omega];omega)
  exact⟨this.1,this.2,by omega,by omega⟩
 ·rw[if_neg h];have:=key (woX0 A) g1 (by omega)
  exact⟨this.1,this.2,by omega,by omega⟩
theorem yW2 {n:Int} (h : -33000000≤n∧n≤34000000) : -400≤Int.tdiv n 100000∧Int.tdiv n 100000≤400:=by
 rcases Int.lt_or_le n 0 with h0|h0
 ·obtain⟨m,rfl⟩:∃ m:Int,n = -m:=⟨-n,by omega⟩
  rw[Int.neg_tdiv,Int.tdiv_eq_ediv_of_nonneg (by omega)]
  omega
 ·rw[Int.tdiv_eq_ediv_of_nonneg h0];omega
theorem pl_gt {u v j:Nat} (hu:u≤99) (h:v=u / 10^(j+1)):cmpI ((v:Nat):Int) 10<0:=by
 have h4:u / 10^(j+1)≤u / 10:=Nat.div_le_div_left (by rw[xH2];have:0<10^j:=Nat.pow_pos (by decide);omega) (by decide)
 rw[←h] at h4;have h5:v<10:=by omega
 rcases qX7 ((v:Nat):Int) 10 with h|h|h <;> omega
theorem pl_lt {u v j:Nat} (hu:10≤u) (h:u=v / 10^(j+1)):0≤cmpI ((v:Nat):Int) 10∧0≤cmpI ((v:Nat):Int) 100:=by
 have h4:v / 10^(j+1)≤v / 10:=Nat.div_le_div_left (by rw[xH2];have:0<10^j:=Nat.pow_pos (by decide);omega) (by decide)
 rw[←h] at h4;have h5:100≤v:=by omega
 constructor
 ·rcases qX7 ((v:Nat):Int) 10 with h|h|h <;> omega
 ·rcases qX7 ((v:Nat):Int) 100 with h|h|h <;> omega
theorem pl_eq {u:Nat} (h1:10≤u) (h2:u≤99):0≤cmpI ((u:Nat):Int) 10∧cmpI ((u:Nat):Int) 100<0:=by
 constructor
 ·rcases qX7 ((u:Nat):Int) 10 with h|h|h <;> omega
 ·rcases qX7 ((u:Nat):Int) 100 with h|h|h <;> omega
theorem yR5 {A:Nat} {X:Value} {w:World} (hA:A<2^bU) (h0:A≠0) (hX:DN w X (un (A:Int) 1074)) :
  Calls Tryz.prog 68 #[X] w fun r w'=>r=.returned (.int .i64 (woX A))∧Bw w w':=by
 obtain⟨s,ao,n,cp,e,rfl⟩:=hX.shape;obtain⟨b1,b2⟩:=yX4 hA h0;obtain⟨p1,p2,p3,p4⟩:=qS7 hA h0;have hb:=qG5;have h8:=zT0;refine zW0 s ao n cp e ((bl A:Int) - 1074) _ (woX A) _ (un 10 0) (un 100 0) (fun x=>un ((scF A (-x+1):Nat):Int) 0) (fun x=>scE A (-x+1)) (fun x=>cmpI ((scF A (-x+1):Nat):Int) 10) (fun x=>cmpI ((scF A (-x+1):Nat):Int) 100) w hX ⟨by omega,by omega⟩ rfl ?_ ?_ ?_ ?_ ?_ ?_ ?_ ?_
 ·have:=yW2 (n:=((bl A:Int) - 1074 - 1)*30103) (by omega)
  exact⟨this.1,this.2,p3,p4⟩
 ·intro W Y hY;have h:=ghigh (qJ3 hA) (by omega) (by omega) (show((A:Nat):Int)≠0 by omega) hY
  rw[xG9] at h;exact h
 ·exact fun x h1 h2 W Y hY=>zU8 hA (by omega) hY
 ·exact fun W=>(zX8 (n:=10) (by omega) W).mono fun r w' h=>outQ h
 ·exact fun W=>(zX8 (n:=100) (by omega) W).mono fun r w' h=>outQ h
 ·exact fun x h1 h2 W Y Z hY hZ=>zX9 (qJ3 (zP8 hA (by omega)).1) (show((10:Int)).natAbs<2^7 by decide) (by omega) (by omega) (by omega) hY hZ
 ·exact fun x h1 h2 W Y Z hY hZ=>zX9 (qJ3 (zP8 hA (by omega)).1) (show((100:Int)).natAbs<2^7 by decide) (by omega) (by omega) (by omega) hY hZ
 ·intro x h1 h2;refine⟨fun h=>?_,fun h=>?_,fun h=>?_⟩
  ·obtain⟨j,hj⟩:∃ j:Nat,x=woX A+((j+1:Nat):Int):=⟨(x - woX A - 1).toNat,by omega⟩
   have h3:=qR A (1 - woX A) (j+1);rw[show 1 - woX A - ((j+1:Nat):Int) = -x+1 by omega] at h3
   exact pl_gt p2 h3
  ·obtain⟨j,hj⟩:∃ j:Nat,woX A=x+((j+1:Nat):Int):=⟨(woX A - x - 1).toNat,by omega⟩
   have h3:=qR A (-x+1) (j+1);rw[show -x+1 - ((j+1:Nat):Int)=1 - woX A by omega] at h3
   exact pl_lt p1 h3
  ·rw[h,show -woX A+1=1 - woX A by omega]
   exact pl_eq p1 p2
end Go.Proofs.YtkcmhaknalomjaaGreatDoor
