/- Own work: contracts of the program's functions, part 18: DSH DSI DSJ DSK DSL DSM DSN DSO DUC DUD DUE DUF DUG DSP. -/
import Derived.Test.YtfkaogdmlcdceaaGreatDoorA17
import Derived.Test.YtfkaogdmlcdceaaGreatDoorA14
import Derived.Test.YtfkaogdmlcdceaaGreatDoorA16
import Derived.Test.YtfkaogdmlcdceaaGreatDoorA13

set_option maxHeartbeats 16000000
set_option maxRecDepth 200000
set_option linter.unusedVariables false
set_option linter.unusedSimpArgs false
namespace Go.Proofs.YtfkaogdmlcdceaaGreatDoor
open Go Go.RowKit Go.Fl64
attribute [local go_sem] iV Nu
theorem xB3 (L:Bool) (H:Option Addr) (C J:Nat) (I:Int) (s1:Bool) (D:Option Addr) (n1 F:Nat) (e1:Int) (k sg:Int) (ta tn tT tx td tR:Bool×Nat×Int) (w:World) (hA:DN w (.agg (Nu L H C J I)) ta) (hN:DN w (.agg (Nu s1 D n1 F e1)) tn) (hk:0≤k)
  (kT:Hid (∀ W,Ca 38 #[iV k] W fun r w'=>OutQ W tT r w'))
  (kM:Hid (∀ W X Y,DN W X ta→DN W Y tT→Ca 39 #[X,Y] W fun r w'=>OutQ W tx r w'))
  (kS:Hid (∀ W X,DN W X td→Ca 47 #[X] W (Rq W (iV sg))))
  (kL:Hid (∀ W X Y,DN W X tx→DN W Y tn→Ca 45 #[X,Y] W fun r w'=>OutQ W td r w'))
  (kN:Hid (sg<0→∀ W X,DN W X td→Ca 111 #[X] W fun r w'=>OutQ W tR r w')) (kR:Hid (¬ sg<0→tR=td)) :
  Ca 85 #[.agg (Nu L H C J I),.agg (Nu s1 D n1 F e1),iV k] w fun r w'=>OutQ w tR r w':=by
 obtain⟨W,hW⟩:=eE (((w.alloc (.cells (Nu L H C J I) 54)).alloc (.cells (Nu s1 D n1 F e1) 54)).alloc (.cells (Nu false none 0 0 0) 54));have H0:Hid (Hn W w.heap.size L H C J I 54∧Hn W (w.heap.size+1) s1 D n1 F e1 54∧Hn W (w.heap.size+1+1) false none 0 0 0 54∧W.heap.size=w.heap.size+3∧Bw w W):=by
  obtain⟨y1,y2,y3,y4⟩:=qF4 _ _ _ hW;exact⟨y1,y2,y3,by rw[hW];simp,y4⟩
 obtain⟨⟨c0,c1,c2⟩,-⟩:=qQ1 H0.out.1
 go_enter Tryz.func85,Tryz.ntmps85
 go_upto_region 1 with fail;rw[←hW];clear hW;obtain⟨V,hV⟩:=eE (W.alloc (.cells (Nu L H C J I) 54));have H1:Hid (Hn V w.heap.size L H C J I 54∧Hn V (w.heap.size+1) s1 D n1 F e1 54∧Hn V (w.heap.size+1+1) false none 0 0 0 54∧Hn V (w.heap.size+3) L H C J I 54∧V.heap.size=w.heap.size+4∧Bw w V∧DN V (.agg (Nu L H C J I)) ta∧DN V (.agg (Nu s1 D n1 F e1)) tn):=by
  have hb:Bw W V:=by rw[hV];exact bR.alloc lR _
  obtain⟨y1,y2,y3,y4,y5⟩:=H0.out;have h6:Hn V W.heap.size L H C J I 54:=by rw[hV];exact kB7 _ _
  rw[y4] at h6;have qV:=y5.trans (hb.mono y5.size);exact⟨qQ0 y1 hb (qQ7 y1),qQ0 y2 hb (qQ7 y2),qQ0 y3 hb (qQ7 y3),h6,by rw[hV];simp;omega,qV,hA.later qV,hN.later qV⟩
 have h3:=H0.out.2.2.2.1
 go_upto_region 2 with fail;rw[←hV];clear hV h3 H0 hA hN c0 c1 c2;have qR:∀ i,i<1→∃ cs,Hx V ((fun _=>w.heap.size+3:Nat→Nat) i) cs 54∧NC3 cs:=fun i hi=>⟨_,H1.out.2.2.2.1,_,_,_,_,_,rfl⟩
 go_upto_region 3 with fail;refine qG4 qX2 [0,1,2,3] [4] [12,13,14,15] [[],[],[1],[0,2]] [[3]] [3] (fun _=>7) (fun _=>w.heap.size+3) (w.heap.size+3) 54 NC3 3 V _ [isV (.agg (Nu L H C J I)),isV (iV k),isD (tT),isD (tx)] (by kernel_rfl) ⟨qQ2 _,qQ2 _,qX9 _,qX9 _,trivial⟩ ⟨qK4 _ _ _,qK4 _ _ _,qJ6 _,qJ6 _,trivial⟩ (by show ∀ s ∈ [12,13,14,15],s<30;decide) ?_ ?_ Tryz.info54 ?_ ?_ ?_ ?_ (by have:=H1.out.2.2.2.2.1;omega) ?_
 ·intro i hi U u h;obtain rfl:i=0:=Nat.lt_one_iff.1 hi;obtain⟨s9,qK,n9,qX,e9,rfl⟩:=DN.shape (show DN U u _ from h);exact⟨_,rfl,rfl,⟨_,_,_,_,_,rfl⟩,one3 rfl rfl⟩
 ·intro j hj o ho act U hK T qQ zY;have zX:j<4:=hj;have qW:act.tmps[(3:Nat)]?=some (Value.pointer (some ⟨w.heap.size,0,none⟩)):=(T 3 δ).trans rfl;have zZ:act.tmps[(4:Nat)]?=some (Value.pointer (some ⟨w.heap.size+1,0,none⟩)):=(T 4 δ).trans rfl;have zQ:act.tmps[(7:Nat)]?=some (Value.pointer (some ⟨w.heap.size+3,0,none⟩)):=(T 7 δ).trans rfl;have qC:act.tmps[(2:Nat)]?=some (iV k):=(T 2 δ).trans rfl;have hs:=H1.out.2.2.2.2.1;have dA:Hn U w.heap.size L H C J I 54:=(hK.keep w.heap.size ω (fun i hi=>by show w.heap.size≠w.heap.size+3;omega)).trans H1.out.1
  have d3:=(qQ1 dA).1;rcases(by omega:j=0∨j=1∨j=2∨j=3)with rfl|rfl|rfl|rfl
  ·obtain rfl:=kF0 ho;exact .inl ⟨rfl,qJ0 rfl qW d3.1 d3.2.1 d3.2.2 ⟨_,rfl,rfl,kH9 _ _⟩⟩
  ·obtain rfl:=kF0 ho;exact .inl ⟨rfl,qZ7 rfl qC ⟨_,rfl,rfl,kH9 _ _⟩⟩
  ·obtain rfl:=kF0 ho;have y1:act.tmps[(13:Nat)]?=_:=dV (qQ 1 (by simp[dL])) rfl
   refine .inl ⟨rfl,qQ9 rfl (qZ4 Tryz.func38 (by kernel_rfl) (by kernel_rfl)) (vs:=#[iV k]) (by simp[qZ1 y1]) ?_⟩
   refine(kT.out U).mono ?_
   rintro r w' ⟨s9,qK,n9,qX,e9,rfl,qF,qH⟩;exact⟨_,rfl,_,rfl,qF,qH⟩
  ·obtain rfl:=kF0 ho;have y0:act.tmps[(12:Nat)]?=_:=dV (qQ 0 (by simp[dL])) rfl
   obtain⟨u2,qL,v2⟩:=qQ 2 (by simp[dL])
   have y2:act.tmps[(14:Nat)]?=_:=qL;refine .inl ⟨rfl,qQ9 rfl (qZ4 Tryz.func39 (by kernel_rfl) (by kernel_rfl)) (vs:=#[.agg (Nu L H C J I),u2]) (by simp[qZ1 y0,qZ1 y2]) ?_⟩
   refine(kM.out U _ _ (H1.out.2.2.2.2.2.2.1.keepN hK qR) v2).mono ?_
   rintro r w' ⟨s9,qK,n9,qX,e9,rfl,qF,qH⟩;exact⟨_,rfl,_,rfl,qF,qH⟩
 ·intro i hi;obtain rfl:i=0:=Nat.lt_one_iff.1 hi;exact⟨_,rfl,rfl⟩
 ·intro i hi;exact⟨rfl,δ⟩
 ·intro i hi;exact⟨by show w.heap.size+3≤w.heap.size+3;omega,_,H1.out.2.2.2.1,rfl,_,_,_,_,_,rfl⟩
 ·intro i i' hi qE _;exact(Nat.lt_one_iff.1 hi).trans (Nat.lt_one_iff.1 qE).symm
 ·intro u U hK hu qS;obtain⟨qA,ya,z9⟩:=qS 0 δ;have q9:DN U (u 3) _:=hu 3 (by show 3<4;decide)
  have qM:u 3=.agg qA:=ya;rw[qM] at q9;obtain⟨s9,qK,n9,qX,e9,h9⟩:=DN.shape q9;obtain rfl:=Value.agg.inj h9;clear hu qS ya qM;simp only[putL,show List.range 4 = [0,1,2,3] from rfl,kG2,kG3,kG4,kG5,kH2,kH3,kH0,kG9,List.foldl_cons,List.foldl_nil,Nat.reduceLT,Nat.reduceMod,Nat.reduceDiv,Nat.reduceMul,Nat.reduceAdd,Nat.reduceEqDiff,reduceIte,kG8,Act.put,kU9,kG0,kG1];have hs:=H1.out.2.2.2.2.1;have H2:Hid (NbQ U (w.heap.size+3) s9 qK n9 qX e9 tx∧NbQ U (w.heap.size+1) s1 D n1 F e1 tn∧Hn U (w.heap.size+1+1) false none 0 0 0 54∧Bw w U):=⟨⟨z9,q9⟩,⟨(hK.keep _ ω (fun i hi=>by show w.heap.size+1≠w.heap.size+3;omega)).trans H1.out.2.1,H1.out.2.2.2.2.2.2.2.keepN hK qR⟩,(hK.keep _ ω (fun i hi=>by show w.heap.size+1+1≠w.heap.size+3;omega)).trans H1.out.2.2.1,H1.out.2.2.2.2.2.1.trans (hK.below.mono ω)⟩
  clear hs hK z9 q9 H1 h9;obtain⟨⟨c0,c1,c2⟩,-⟩:=qQ1 H2.out.1.1;obtain⟨⟨d0,d1,d2⟩,-⟩:=qQ1 H2.out.2.1.1;have q1:=kL.out U _ _ H2.out.1.2 H2.out.2.1.2
  go_wp2_with fail;refine q1.mono ?_;rintro r w2 ⟨s5,qN,n5,qB,e5,rfl,qD,qG⟩;obtain⟨V2,qY⟩:=eE (w2.alloc (.cells (Nu s5 qN n5 qB e5) 54));obtain⟨gd,qJ⟩:=eE w2.heap.size;have H3:Hid (NbQ V2 gd s5 qN n5 qB e5 td∧Hn V2 (w.heap.size+1+1) false none 0 0 0 54∧Bw w V2):=by
   have qT:Bw w2 V2:=by rw[qY];exact bR.alloc lR _
   have hb:=qG.trans (qT.mono qG.size);exact⟨⟨by rw[qY,qJ];exact kB7 _ _,qD.later qT⟩,qQ0 H2.out.2.2.1 hb (qQ7 H2.out.2.2.1),H2.out.2.2.2.trans (hb.mono H2.out.2.2.2.size)⟩
  clear q1 qD qG H2 c0 c1 c2 d0 d1 d2
  go_upto_region 6 with fail;rw[←qY,←qJ];clear qY qJ;obtain⟨⟨c0,c1,c2⟩,-⟩:=qQ1 H3.out.1.1;have q1:=kS.out V2 _ H3.out.1.2
  go_wp2_with fail;refine q1.mono ?_;rintro r w3 ⟨rfl,qZ⟩;have H4:Hid _:=aI3 (H3.out.1.later qZ) (qQ0 H3.out.2.1 qZ (qQ7 H3.out.2.1)) (H3.out.2.2.trans (qZ.mono H3.out.2.2.size));clear q1 qZ H3 c0 c1 c2;obtain⟨⟨c0,c1,c2⟩,-⟩:=qQ1 H4.out.1.1;by_cases hs:sg<0
  ·have q1:=kN.out hs w3 _ H4.out.1.2
   go_wp2_with fail;refine q1.mono ?_;rintro r w4 ⟨s6,qO,n6,qI,e6,rfl,qP,qU⟩;have H5:Hid _:=aI3 (qQ0 H4.out.2.1 qU (qQ7 H4.out.2.1)) (H4.out.2.2.trans (qU.mono H4.out.2.2.size)) qP;clear q1 qP qU H4 c0 c1 c2;obtain⟨⟨d0,d1,d2⟩,f0,f1,f2⟩:=qQ1 H5.out.1
   go_wp2_with fail;refine kB8 (kM2 rfl _ _ (w.heap.size+1+1) 54 (Nu s6 qO n6 qI e6) (0,0) _ rfl (qZ9 _ _ _ H5.out.1) Tryz.underlying54 rfl Tryz.info54) rfl ?_;exact⟨_,_,_,_,_,rfl,H5.out.2.2.storeQ H5.out.1 _ _ _,qQ4 H5.out.2.1 ω _ _ _⟩
  ·obtain⟨⟨d0,d1,d2⟩,f0,f1,f2⟩:=qQ1 H4.out.2.1;have hR:=kR.out ω;subst hR
   go_wp2_with fail;refine kB8 (kM2 rfl _ _ (w.heap.size+1+1) 54 (Nu s5 qN n5 qB e5) (0,0) _ rfl (qZ9 _ _ _ H4.out.2.1) Tryz.underlying54 rfl Tryz.info54) rfl ?_;exact⟨_,_,_,_,_,rfl,H4.out.1.2.storeQ H4.out.2.1 _ _ _,qQ4 H4.out.2.2 ω _ _ _⟩
theorem xB4 (s0:Bool) (H:Option Addr) (n0 J:Nat) (e0:Int) (s1:Bool) (D:Option Addr) (n1 F:Nat) (e1:Int) (k sg:Int) (ta tn tT tx td tR:Bool×Nat×Int) (w:World) (hA:DN w (.agg (Nu s0 H n0 J e0)) ta) (hN:DN w (.agg (Nu s1 D n1 F e1)) tn) (hk:¬ 0≤k) (qC:IntKind.i64.wrap (-k) = -k)
  (kT:Hid (∀ W,Ca 38 #[iV (-k)] W fun r w'=>OutQ W tT r w'))
  (kM:Hid (∀ W X Y,DN W X tn→DN W Y tT→Ca 39 #[X,Y] W fun r w'=>OutQ W tx r w'))
  (kS:Hid (∀ W X,DN W X td→Ca 47 #[X] W (Rq W (iV sg))))
  (kL:Hid (∀ W X Y,DN W X ta→DN W Y tx→Ca 45 #[X,Y] W fun r w'=>OutQ W td r w'))
  (kN:Hid (sg<0→∀ W X,DN W X td→Ca 111 #[X] W fun r w'=>OutQ W tR r w')) (kR:Hid (¬ sg<0→tR=td)) :
  Ca 85 #[.agg (Nu s0 H n0 J e0),.agg (Nu s1 D n1 F e1),iV k] w fun r w'=>OutQ w tR r w':=by
 obtain⟨W,hW⟩:=eE (((w.alloc (.cells (Nu s0 H n0 J e0) 54)).alloc (.cells (Nu s1 D n1 F e1) 54)).alloc (.cells (Nu false none 0 0 0) 54));have H0:Hid (Hn W w.heap.size s0 H n0 J e0 54∧Hn W (w.heap.size+1) s1 D n1 F e1 54∧Hn W (w.heap.size+1+1) false none 0 0 0 54∧W.heap.size=w.heap.size+3∧Bw w W):=by
  obtain⟨y1,y2,y3,y4⟩:=qF4 _ _ _ hW;exact⟨y1,y2,y3,by rw[hW];simp,y4⟩
 obtain⟨⟨c0,c1,c2⟩,-⟩:=qQ1 H0.out.1
 go_enter Tryz.func85,Tryz.ntmps85
 go_upto_region 1 with fail;rw[←hW];clear hW;obtain⟨V,hV⟩:=eE (W.alloc (.cells (Nu s0 H n0 J e0) 54));have I:Hid (Hn V w.heap.size s0 H n0 J e0 54∧Hn V (w.heap.size+1) s1 D n1 F e1 54∧Hn V (w.heap.size+1+1) false none 0 0 0 54∧Hn V (w.heap.size+3) s0 H n0 J e0 54∧V.heap.size=w.heap.size+4∧Bw w V∧DN V (.agg (Nu s0 H n0 J e0)) ta∧DN V (.agg (Nu s1 D n1 F e1)) tn):=by
  have hb:Bw W V:=by rw[hV];exact bR.alloc lR _
  obtain⟨y1,y2,y3,y4,y5⟩:=H0.out;have h6:Hn V W.heap.size s0 H n0 J e0 54:=by rw[hV];exact kB7 _ _
  rw[y4] at h6;have qJ:=y5.trans (hb.mono y5.size);exact⟨qQ0 y1 hb (qQ7 y1),qQ0 y2 hb (qQ7 y2),qQ0 y3 hb (qQ7 y3),h6,by rw[hV];simp;omega,qJ,hA.later qJ,hN.later qJ⟩
 have h3:=H0.out.2.2.2.1
 go_upto_region 2 with fail;rw[←hV];clear hV h3 H0 hA hN c0 c1 c2;have qS:∀ i,i<1→∃ cs,Hx V ((fun _=>w.heap.size+1:Nat→Nat) i) cs 54∧NC3 cs:=fun i hi=>⟨_,I.out.2.1,_,_,_,_,_,rfl⟩
 go_upto_region 4 with fail;refine qG4 qX2 [0,1,2,3,4] [5] [16,17,18,19,20] [[],[],[1],[2],[0,3]] [[0,4]] [4] (fun _=>4) (fun _=>w.heap.size+1) (w.heap.size+1) 54 NC3 3 V _ [isV (.agg (Nu s1 D n1 F e1)),isV (iV k),isV (iV (-k)),isD (tT),isD (tx)] (by kernel_rfl) ⟨qQ2 _,qQ2 _,qQ2 _,qX9 _,qX9 _,trivial⟩ ⟨qK4 _ _ _,qK4 _ _ _,qK4 _ _ _,qJ6 _,qJ6 _,trivial⟩ (by show ∀ s ∈ [16,17,18,19,20],s<30;decide) ?_ ?_ Tryz.info54 ?_ ?_ ?_ ?_ (by have:=I.out.2.2.2.2.1;omega) ?_
 ·intro i hi U u h;obtain rfl:i=0:=Nat.lt_one_iff.1 hi;obtain⟨s9,qX,n9,qY,e9,rfl⟩:=DN.shape (show DN U u _ from h);exact⟨_,rfl,rfl,⟨_,_,_,_,_,rfl⟩,one3 rfl rfl⟩
 ·intro j hj o ho act U hK T L qE;have zX:j<5:=hj;have zY:act.tmps[(3:Nat)]?=some (Value.pointer (some ⟨w.heap.size,0,none⟩)):=(T 3 δ).trans rfl;have qL:act.tmps[(4:Nat)]?=some (Value.pointer (some ⟨w.heap.size+1,0,none⟩)):=(T 4 δ).trans rfl;have zZ:act.tmps[(7:Nat)]?=some (Value.pointer (some ⟨w.heap.size+3,0,none⟩)):=(T 7 δ).trans rfl;have qW:act.tmps[(2:Nat)]?=some (iV k):=(T 2 δ).trans rfl;rcases(by omega:j=0∨j=1∨j=2∨j=3∨j=4)with rfl|rfl|rfl|rfl|rfl
  ·obtain rfl:=kF0 ho;have d4:=(qQ1 ((qE 0 δ (by simp[dL])).trans I.out.2.1)).1
   exact .inl ⟨rfl,qJ0 rfl qL d4.1 d4.2.1 d4.2.2 ⟨_,rfl,rfl,kH9 _ _⟩⟩
  ·obtain rfl:=kF0 ho;exact .inl ⟨rfl,qZ7 rfl qW ⟨_,rfl,rfl,kH9 _ _⟩⟩
  ·obtain rfl:=kF0 ho;have y1:act.tmps[(17:Nat)]?=_:=dV (L 1 (by simp[dL])) rfl
   exact .inl ⟨rfl,qZ6 (w':=U) (by simp[execOp,y1,qY1,go_sem,qC]) ⟨_,rfl,rfl,kH9 _ _⟩⟩
  ·obtain rfl:=kF0 ho;have y2:act.tmps[(18:Nat)]?=_:=dV (L 2 (by simp[dL])) rfl
   refine .inl ⟨rfl,qQ9 rfl (qZ4 Tryz.func38 (by kernel_rfl) (by kernel_rfl)) (vs:=#[iV (-k)]) (by simp[qZ1 y2]) ?_⟩
   refine(kT.out U).mono ?_
   rintro r w' ⟨s9,qX,n9,qY,e9,rfl,qH,qG⟩;exact⟨_,rfl,_,rfl,qH,qG⟩
  ·obtain rfl:=kF0 ho;have y0:act.tmps[(16:Nat)]?=_:=dV (L 0 (by simp[dL])) rfl
   obtain⟨u3,qT,v3⟩:=L 3 (by simp[dL])
   have y3:act.tmps[(19:Nat)]?=_:=qT;refine .inl ⟨rfl,qQ9 rfl (qZ4 Tryz.func39 (by kernel_rfl) (by kernel_rfl)) (vs:=#[.agg (Nu s1 D n1 F e1),u3]) (by simp[qZ1 y0,qZ1 y3]) ?_⟩
   refine(kM.out U _ _ (I.out.2.2.2.2.2.2.2.keepN hK qS) v3).mono ?_
   rintro r w' ⟨s9,qX,n9,qY,e9,rfl,qH,qG⟩;exact⟨_,rfl,_,rfl,qH,qG⟩
 ·intro i hi;obtain rfl:i=0:=Nat.lt_one_iff.1 hi;exact⟨_,rfl,rfl⟩
 ·intro i hi;exact⟨rfl,δ⟩
 ·intro i hi;exact⟨by show w.heap.size+1≤w.heap.size+1;omega,_,I.out.2.1,rfl,_,_,_,_,_,rfl⟩
 ·intro i i' hi qA _;exact(Nat.lt_one_iff.1 hi).trans (Nat.lt_one_iff.1 qA).symm
 ·intro u U hK hu qD;obtain⟨qI,ya,z9⟩:=qD 0 δ;have q9:DN U (u 4) _:=hu 4 (by show 4<5;decide)
  have qN:u 4=.agg qI:=ya;rw[qN] at q9;obtain⟨s9,qX,n9,qY,e9,h9⟩:=DN.shape q9;obtain rfl:=Value.agg.inj h9;clear hu qD ya qN;simp only[putL,show List.range 5 = [0,1,2,3,4] from rfl,kG2,kG3,kG4,kG5,kH2,kH3,kH0,kG9,List.foldl_cons,List.foldl_nil,Nat.reduceLT,Nat.reduceMod,Nat.reduceDiv,Nat.reduceMul,Nat.reduceAdd,Nat.reduceEqDiff,reduceIte,kG8,Act.put,kU9,kG0,kG1];have hs:=I.out.2.2.2.2.1;have H2:Hid (NbQ U (w.heap.size+3) s0 H n0 J e0 ta∧NbQ U (w.heap.size+1) s9 qX n9 qY e9 tx∧Hn U (w.heap.size+1+1) false none 0 0 0 54∧Bw w U):=⟨⟨(hK.keep _ ω (fun i hi=>by show w.heap.size+3≠w.heap.size+1;omega)).trans I.out.2.2.2.1,I.out.2.2.2.2.2.2.1.keepN hK qS⟩,⟨z9,q9⟩,(hK.keep _ ω (fun i hi=>by show w.heap.size+1+1≠w.heap.size+1;omega)).trans I.out.2.2.1,I.out.2.2.2.2.2.1.trans (hK.below.mono ω)⟩
  clear hs hK z9 q9 I h9;obtain⟨⟨c0,c1,c2⟩,-⟩:=qQ1 H2.out.1.1;obtain⟨⟨d0,d1,d2⟩,-⟩:=qQ1 H2.out.2.1.1;have q1:=kL.out U _ _ H2.out.1.2 H2.out.2.1.2
  go_wp2_with fail;refine q1.mono ?_;rintro r w2 ⟨s5,qB,n5,qF,e5,rfl,qP,qU⟩;obtain⟨V2,qZ⟩:=eE (w2.alloc (.cells (Nu s5 qB n5 qF e5) 54));obtain⟨gd,qK⟩:=eE w2.heap.size;have H3:Hid (NbQ V2 gd s5 qB n5 qF e5 td∧Hn V2 (w.heap.size+1+1) false none 0 0 0 54∧Bw w V2):=by
   have qR:Bw w2 V2:=by rw[qZ];exact bR.alloc lR _
   have hb:=qU.trans (qR.mono qU.size);exact⟨⟨by rw[qZ,qK];exact kB7 _ _,qP.later qR⟩,qQ0 H2.out.2.2.1 hb (qQ7 H2.out.2.2.1),H2.out.2.2.2.trans (hb.mono H2.out.2.2.2.size)⟩
  clear q1 qP qU H2 c0 c1 c2 d0 d1 d2
  go_upto_region 6 with fail;rw[←qZ,←qK];clear qZ qK;obtain⟨⟨c0,c1,c2⟩,-⟩:=qQ1 H3.out.1.1;have q1:=kS.out V2 _ H3.out.1.2
  go_wp2_with fail;refine q1.mono ?_;rintro r w3 ⟨rfl,qQ⟩;have C:Hid _:=aI3 (H3.out.1.later qQ) (qQ0 H3.out.2.1 qQ (qQ7 H3.out.2.1)) (H3.out.2.2.trans (qQ.mono H3.out.2.2.size));clear q1 qQ H3 c0 c1 c2;obtain⟨⟨c0,c1,c2⟩,-⟩:=qQ1 C.out.1.1;by_cases hs:sg<0
  ·have q1:=kN.out hs w3 _ C.out.1.2
   go_wp2_with fail;refine q1.mono ?_;rintro r w4 ⟨s6,zQ,n6,qO,e6,rfl,qM,qV⟩;have H5:Hid _:=aI3 (qQ0 C.out.2.1 qV (qQ7 C.out.2.1)) (C.out.2.2.trans (qV.mono C.out.2.2.size)) qM;clear q1 qM qV C c0 c1 c2;obtain⟨⟨d0,d1,d2⟩,f0,f1,f2⟩:=qQ1 H5.out.1
   go_wp2_with fail;refine kB8 (kM2 rfl _ _ (w.heap.size+1+1) 54 (Nu s6 zQ n6 qO e6) (0,0) _ rfl (qZ9 _ _ _ H5.out.1) Tryz.underlying54 rfl Tryz.info54) rfl ?_;exact⟨_,_,_,_,_,rfl,H5.out.2.2.storeQ H5.out.1 _ _ _,qQ4 H5.out.2.1 ω _ _ _⟩
  ·obtain⟨⟨d0,d1,d2⟩,f0,f1,f2⟩:=qQ1 C.out.2.1;have hR:=kR.out ω;subst hR
   go_wp2_with fail;refine kB8 (kM2 rfl _ _ (w.heap.size+1+1) 54 (Nu s5 qB n5 qF e5) (0,0) _ rfl (qZ9 _ _ _ C.out.2.1) Tryz.underlying54 rfl Tryz.info54) rfl ?_;exact⟨_,_,_,_,_,rfl,C.out.1.2.storeQ C.out.2.1 _ _ _,qQ4 C.out.2.2 ω _ _ _⟩
theorem yI7:pU 1074=kU:=rfl
theorem tn_p (n:Nat):tnO (n:Int)=10^n∧tnU (n:Int)=1:=by
 unfold tnO tnU;rw[kN9,show(-(n:Int)).toNat=0 by omega]
 exact⟨rfl,rfl⟩
theorem tn_n (n:Nat):tnO (-(n:Int))=(if n=0 then 1 else 1)∧tnU (-(n:Int))=10^n:=by
 unfold tnO tnU;rw[show(- -(n:Int)).toNat=n by omega,show(-(n:Int)).toNat=0 by omega]
 exact⟨by split <;> rfl,rfl⟩
theorem xX2 (n:Nat):tnO (-(n:Int))=1:=by have:=(tn_n n).1;rw[this];split <;> rfl
theorem qY4 {A b:Nat} (h:A<2^b):(((A:Nat):Int)).natAbs<2^b:=by rw[kN1];exact h
theorem qU4 (n:Nat):10^n<2^(4*n+1):=by have:=zF4 n;rw[kN1] at this;exact this
theorem mulN {a b k l:Nat} (Y:a<2^k) (u:b<2^l):a*b<2^(k+l):=by
 have:=qM0 (qY4 Y) (qY4 u)
 rw[←kN8,kN1] at this;exact this
theorem zT6 {A:Nat} {k:Int} {X:Value} {w:World} (F:A<2^bU) (T : -2000≤k∧k≤2000) (u:DN w X (un (A:Int) 1074)) :
  Ca 82 #[X,iV k] w fun r w'=>OutS w (un ((scF A k:Nat):Int) 0) (scE A k) r w':=by
 obtain⟨s,ao,n,D,e,rfl⟩:=u.shape;have L:=qF2;by_cases h:0≤k
 ·obtain⟨m,rfl⟩:∃ m:Nat,k=(m:Int):=⟨k.toNat,ω⟩;obtain⟨V,J⟩:=tn_p m;refine zC7 s ao n D e m _ (un ((10^m:Nat):Int) 0) (un ((A*10^m:Nat):Int) 1074) _ _ w u h (fun W=>(zN6 m W ω).mono fun r w' h=>outQ h) ?_ ?_
  ·intro W X Y u H;have h:=yV7 (qY4 F) (qY4 (qU4 m)) ω ω u H;rw[←kN8] at h;exact h.mono fun r w' h=>outQ h
  ·intro W X u;have h:=xO0 yI7 (mulN F (qU4 m)) ω ω u;unfold scF scE;rw[V,J,Nat.one_mul];exact h.mono fun r w' h=>outS h
 ·obtain⟨m,rfl⟩:∃ m:Nat,k = -(m:Int):=⟨k.natAbs,ω⟩;have J:=(tn_n m).2;have V:=xX2 m;refine zC8 s ao n D e _ _ (un ((10^m:Nat):Int) 0) _ _ w u h (by rw[kB5];omega) ?_ ?_
  ·intro W;rw[Int.neg_neg];exact(zN6 m W ω).mono fun r w' h=>outQ h
  ·intro W X Y u H;have h:=xI6 yI7 (kH1 δ) F (qU4 m) ω ω ω u H;unfold scF scE;rw[V,J,kM1];exact h.mono fun r w' h=>outS h
def frD (A N:Nat) (k:Int):Int:=((A*tnO k:Nat):Int) - ((N*(tnU k*kU):Nat):Int)
theorem sgQ {Z:Int} {p b:Nat} (h:Z.natAbs<2^b) (H:b≤90000) (V:p≤90000) {W:World} {X:Value} (F:DN W X (un Z p)) :
  Ca 47 #[X] W (Rq W (iV (if Z=0 then 0 else if Z<0 then -1 else 1))):=by
 have g:=qG3 (p:=p) h H V;obtain⟨ao,cap,rfl,T⟩:=F;have k:=rsgn (na:=(un Z p).1) (ua:=ao) (un:=dlen (un Z p).2.1) (uc:=cap) (ea:=(un Z p).2.2) (w:=W) (by have:=g.2.1;omega)
 have e:(if dlen (un Z p).2.1=0 then(0:Int)else if(un Z p).1 then -1 else 1)=(if Z=0 then 0 else if Z<0 then -1 else 1):=by
  have J:=(qU2 (Z:=Z) (p:=p)).2;by_cases u:Z=0
  ·rw[kU6 u,kU6 (qQ8.2 (J.2 u))]
  ·rw[kU5 u,kU5 (fun h=>u (J.1 (qQ8.1 h)))];have D:(un Z p).1=decide (Z<0):=by unfold un cn;rw[kU5 (show ¬ Z.natAbs=0 by omega)]
   rw[D];by_cases Y:Z<0
   ·rw[kU6 Y,kU6 (kF2 Y)]
   ·rw[kU5 Y,kU5 (by simpa using Y)]
 rw[e] at k;exact k
theorem kQ8 {A N b:Nat} {k:Int} {X Y:Value} {w:World} (hA:A<2^bU) (hN:N<2^b) (qQ:b≤20000) (hk : -2000≤k∧k≤2000) (u:DN w X (un (A:Int) 1074)) (J:DN w Y (un (N:Int) 0)) :
  Ca 85 #[X,Y,iV k] w fun r w'=>OutQ w (un (((frD A N k).natAbs:Nat):Int) 1074) r w':=by
 obtain⟨s,ao,n,cp,e,rfl⟩:=u.shape;obtain⟨s2,C,n2,L,e2,rfl⟩:=J.shape;have hb:=qF2;have H:=xA1;obtain⟨D,hD⟩:=eE (frD A N k);rw[←hD];have V:∀ {P Q c:Nat},P<2^c→Q<2^c→c≤80000→D=((P:Nat):Int) - ((Q:Nat):Int)→D.natAbs<2^(c+1)∧c+1≤90000:=by
  intro P Q c h1 h2 h3 h4;rw[kN5];exact⟨ω,ω⟩
 have hR:¬ (if D=0 then(0:Int)else if D<0 then -1 else 1)<0→un ((D.natAbs:Nat):Int) 1074=un D 1074:=fun h=>by
  have:¬ D<0:=fun h9=>h (by rw[kU5 ω,kU6 h9];decide)
  congr 1
  omega
 have hM:(if D=0 then(0:Int)else if D<0 then -1 else 1)<0→∀ W X,DN W X (un D 1074)→Ca 111 #[X] W fun r w'=>OutQ W (un ((D.natAbs:Nat):Int) 1074) r w':=fun h W X u=>by
  have h5:D<0:=by
   by_cases h9:D=0
   ·rw[kU6 h9] at h;omega
   ·rw[kU5 h9] at h;by_cases h8:D<0
    ·exact h8
    ·rw[kU5 h8] at h;omega
  have h6:=xI8 u;rw[xH6,show -D=((D.natAbs:Nat):Int) by omega] at h6
  exact h6.mono fun r w' h=>outQ h
 by_cases h:0≤k
 ·obtain⟨m,rfl⟩:∃ m:Nat,k=(m:Int):=⟨k.toNat,ω⟩;obtain⟨t1,t2⟩:=tn_p m;have I:=mulN hA (qU4 m);have F:=mulN hN H;have T:D=((A*10^m:Nat):Int) - ((N*kU:Nat):Int):=by rw[hD];unfold frD;rw[t1,t2,Nat.one_mul]
  obtain⟨k1,k2⟩:=V (c:=bU+(4*m+1)+(b+bU)) (kF6 I (kF4 δ ω)) (kF6 F (kF4 δ ω)) ω T;refine xB3 s ao n cp e s2 C n2 L e2 m _ _ _ (un ((10^m:Nat):Int) 0) (un ((A*10^m:Nat):Int) 1074) (un D 1074) _ w u J h (fun W=>(zN6 m W ω).mono fun r w' h=>outQ h) ?_ (fun W X u=>sgQ k1 k2 ω u) ?_ hM hR
  ·intro W X Y u J;have h:=yV7 (qY4 hA) (qY4 (qU4 m)) ω ω u J;rw[←kN8] at h;exact h.mono fun r w' h=>outQ h
  ·intro W X Y u J;rw[xD0,←kN8] at J;have h:=xH4 (qG3 (p:=1074) (qY4 I) ω ω) (qG3 (p:=1074) (qY4 F) ω ω) u J;rw[yJ7,←T] at h;exact h.mono fun r w' h=>outQ h
 ·obtain⟨m,rfl⟩:∃ m:Nat,k = -(m:Int):=⟨k.natAbs,ω⟩;have t2:=(tn_n m).2;have t1:=xX2 m;have I:=mulN hN (qU4 m);have F:=mulN I H;have T:D=((A:Nat):Int) - ((N*10^m*kU:Nat):Int):=by rw[hD];unfold frD;rw[t1,t2,kM1,kN6]
  obtain⟨k1,k2⟩:=V (c:=bU+(b+(4*m+1)+bU)) (kF6 hA (kF4 δ ω)) (kF6 F (kF4 δ ω)) ω T;refine xB4 s ao n cp e s2 C n2 L e2 _ _ _ _ (un ((10^m:Nat):Int) 0) (un ((N*10^m:Nat):Int) 0) (un D 1074) _ w u J h (by rw[kB5];omega) ?_ ?_ (fun W X u=>sgQ k1 k2 ω u) ?_ hM hR
  ·intro W;rw[Int.neg_neg];exact(zN6 m W ω).mono fun r w' h=>outQ h
  ·intro W X Y u J;have h:=zN2 (qY4 hN) (qY4 (qU4 m)) ω ω u J;rw[←kN8] at h;exact h.mono fun r w' h=>outQ h
  ·intro W X Y u J;rw[xD0,←kN8] at J;have h:=xH4 (qG3 (p:=1074) (qY4 hA) ω ω) (qG3 (p:=1074) (qY4 F) ω ω) u J;rw[yJ7,←T] at h;exact h.mono fun r w' h=>outQ h
theorem xB2 (s:Bool) (ao:Option Addr) (n J:Nat) (e:Int) (od:Bool) (w:World) (D:n≤100000) (Y:(n=0∧od=false)∨(0<n∧(e==0)=od)) :
  Ca 86 #[.agg (Nu s ao n J e)] w (Rq w (.bool od)):=by
 obtain⟨W,u⟩:=eE (w.alloc (.cells (Nu s ao n J e) 54));have H:Hid (Bw w W):=by rw[u];exact bR.alloc lR _
 have V:Hn W w.heap.size s ao n J e 54:=by rw[u];exact kB7 _ _
 obtain⟨⟨I,C,c2⟩,-⟩:=qQ1 V;clear V
 go_enter Tryz.func86,Tryz.ntmps86
 go_upto_region 1 with fail;rw[←u];clear u;rcases Y with ⟨rfl,rfl⟩|⟨L,T⟩
 ·go_wp2_with fail
  go_ret;exact⟨rfl,H.out⟩
 ·have F:(0:Int)<(n:Int):=ω
  go_wp2_with fail
  go_ret;exact⟨rfl,H.out⟩
theorem d4odd {N b:Nat} {X:Value} {w:World} (V:N<2^b) (D:b≤60000) (J:DN w X (un (N:Int) 0)) :
  Ca 86 #[X] w (Rq w (.bool (decide (N % 2=1)))):=by
 have L:=qV9 (qH6 (p:=0) (qY4 V));obtain⟨ao,cap,rfl,T⟩:=J;refine xB2 _ ao _ cap _ _ w ω ?_;by_cases u:N=0
 ·subst u;rw[show un ((0:Nat):Int) 0=(false,0,0)from qP6 0];exact .inl ⟨qQ5,rfl⟩
 ·rw[zJ0 u];have F:=qX0 _ _ lR u;have H:N / 2^tz N≠0:=fun h=>by rw[h,Nat.mul_zero] at F;omega
  refine .inr ⟨kB0 (fun h=>H (qQ8.1 h)),?_⟩;show(((tz N:Nat):Int)==0)=_
  by_cases Y:N % 2=1
  ·rw[qC9 Y,kF2 Y];rfl
  ·have:=zZ4 u ω
   rw[kF1 Y,kN2];omega
def scR (A:Nat) (k:Int):Nat:=A*tnO k % (tnU k*kU)
def rdU (A:Nat) (k:Int) (neg:Bool) (m:Int):Bool :=
 if m=2 then decide (tnU k*kU<2*scR A k)||(decide (2*scR A k=tnU k*kU)&&decide (scF A k % 2=1))else if m=3 then !neg else neg
def rdN (A:Nat) (k:Int) (neg:Bool) (m:Int):Nat:=if scE A k then scF A k else if rdU A k neg m then scF A k+1 else scF A k
theorem zZ6 (k:Int):0<tnU k*kU:=Nat.mul_pos (kH1 δ) xA0
theorem yZ0 (A:Nat) (k:Int):A*tnO k=tnU k*kU*scF A k+scR A k∧scR A k<tnU k*kU:=⟨(Nat.div_add_mod _ _).symm,kB3 _ (zZ6 k)⟩
def hT8:Nat:=8001
theorem zU3:hT8=8001:=rfl
theorem yE1 (x:Nat):(un ((x:Nat):Int) 0).1=false:=by unfold un cn;split;rfl;exact zV0 x
theorem qO2 {k:Int} (J : -2000≤k∧k≤2000):tnO k<2^hT8∧tnU k<2^hT8:=by
 have u:∀ n:Nat,n≤2000→10^n<2^hT8:=fun n Y=>kF6 (qU4 n) (kF4 δ (by rw[zU3];omega))
 exact⟨u _ ω,u _ ω⟩
theorem zS1 {A:Nat} {k:Int} (Y:A<2^bU) (u : -2000≤k∧k≤2000):scF A k<2^(bU+hT8)∧scF A k+1<2^(bU+hT8+1)∧tnU k*kU<2^(hT8+bU):=by
 have H:=mulN Y (qO2 u).1;have V:scF A k≤A*tnO k:=kF9 _ _;have J:=mulN (qO2 u).2 xA1;refine⟨ω,?_,J⟩
 rw[kN5];have:=Nat.one_le_two_pow (n:=bU+hT8)
 omega
theorem xO3 (A:Nat) (k:Int):(frD A (scF A k) k).natAbs=scR A k∧(frD A (scF A k+1) k).natAbs=tnU k*kU - scR A k:=by
 obtain⟨u,Y⟩:=yZ0 A k;unfold frD;rw[u,Nat.add_mul,kN4 (scF A k),Nat.one_mul];generalize tnU k*kU*scF A k=T;omega
theorem qI8:(2:Nat)^kP=kU:=by
 have h:kU=pU kP:=by unfold kU;rw[qN5]
 rw[h];unfold pU;exact Eq.refl _
theorem zX9:kU=2*2^kP1:=by
 rw[←qI8,show kP=kP1+1 by rw[qN5];rfl,kN5,kN4]
theorem uN_rd {a:Nat} {k m:Int} (hm:1≤m∧m≤3):uN a k m=rdN (fU a) k (neg a) m:=by
 obtain⟨e1,e2⟩:=yZ0 (fU a) k;have hQ:=zZ6 k;obtain⟨h,hh⟩:=eE (tnU k*2^kP1);have Y:tnU k*kU=2*h:=by rw[zX9,hh,←kN6,kN4 (tnU k) 2,kN6]
 obtain⟨low,u⟩:=eE (scF (fU a) k);obtain⟨r,I⟩:=eE (scR (fU a) k);obtain⟨P,hP⟩:=eE (fU a*tnO k);obtain⟨T,D⟩:=eE (h*low);have eP:P=2*T+r:=by rw[hP,e1,Y,←u,←I,D,kN6]
 have hX:∀ Z:Int,unX Z (tnO k) (tnU k)=decide (Z*(tnO k:Int) % ((2*h:Nat):Int)=0):=fun Z=>by unfold unX;rw[qI8,Y]
 have hF:∀ Z:Int,unF Z (tnO k) (tnU k)=Z*(tnO k:Int) / ((2*h:Nat):Int):=fun Z=>by unfold unF;rw[qI8,Y]
 have hA:∀ (Z:Int) (F:Int),unF Z (tnO k) (tnU k)=F→unA Z (tnO k) (tnU k)=(decide ((F*2+1)*(h:Int)<Z*(tnO k:Int))||(decide ((F*2+1)*(h:Int)=Z*(tnO k:Int))&&decide (F % 2=1))):=fun Z F e=>by
  unfold unA;rw[e,Int.mul_assoc,←kN8,←hh]
 have hE:scE (fU a) k=decide (r=0):=by unfold scE;rw[I];rfl
 have hU:rdU (fU a) k (neg a) m=if m=2 then decide (2*h<2*r)||(decide (2*r=2*h)&&decide (low % 2=1))else if m=3 then !(neg a)else neg a:=by unfold rdU;rw[Y,←I,←u]
 unfold rdN;rw[hE,hU,←u];rw[←I,Y] at e2;have L:P / (2*h)=low∧P % (2*h)=r:=by
  have h1:P=2*h*low+r:=by rw[eP,D,kN6]
  exact⟨by rw[h1,Nat.mul_add_div ω,Nat.div_eq_of_lt e2,kH7],by rw[h1,Nat.mul_add_mod,kB2 e2]⟩
 have eT:((low:Int)*2+1)*(h:Int)=((2*T+h:Nat):Int):=by
  rw[D];push_cast;grind
 have qZ:((h*low:Nat):Int)=(h:Int)*(low:Int):=by push_cast;rfl
 unfold uN unR unP;cases hn:neg a
 ·have V:sZ a*(tnO k:Int)=(P:Int):=by unfold sZ;rw[hn,kU5 δ,hP,kN8]
  have H:unF (sZ a) (tnO k) (tnU k)=(low:Int):=by rw[hF,V,←Int.natCast_ediv,L.1]
  have C:unX (sZ a) (tnO k) (tnU k)=decide (r=0):=by
   rw[hX,V];have:((P:Int) % ((2*h:Nat):Int))=(r:Int):=by rw[←Int.natCast_emod,L.2]
   rw[this];by_cases J:r=0
   ·rw[kF2 J,kF2 ω]
   ·rw[kF1 J,kF1 ω]
  rw[C,hA _ _ H,H,V,eT];by_cases J:r=0
  ·rw[kF2 J];simp
  ·rw[kF1 J];rcases(by omega:m=1∨m=2∨m=3)with rfl|rfl|rfl
   ·simp
   ·have c1:decide (((2*T+h:Nat):Int)<(P:Int))=decide (2*h<2*r):=by
     by_cases c:h<r
     ·rw[kF2 ω,kF2 ω]
     ·rw[kF1 ω,kF1 ω]
    have c2:decide (((2*T+h:Nat):Int)=(P:Int))=decide (2*r=2*h):=by
     by_cases c:r=h
     ·rw[kF2 ω,kF2 ω]
     ·rw[kF1 ω,kF1 ω]
    have c3:decide ((low:Int) % 2=1)=decide (low % 2=1):=by
     by_cases c:low % 2=1
     ·rw[kF2 c,kF2 ω]
     ·rw[kF1 c,kF1 ω]
    rw[c1,c2,c3];simp only[Bool.not_false,Bool.true_and,show((2:Int)=3)=False by simp,decide_false,Bool.false_or,decide_true,if_true,Bool.false_eq_true,if_false]
    split <;> omega
   ·simp
    omega
 ·have V:sZ a*(tnO k:Int) = -(P:Int):=by unfold sZ;rw[hn,kU6 rfl,hP,kN8,Int.neg_mul]
  by_cases J:r=0
  ·have H:unF (sZ a) (tnO k) (tnU k) = -(low:Int):=by
    rw[hF,V];refine Int.ediv_eq_of_eq_mul_right ω ?_;have:P=2*h*low:=by rw[eP,J,D,kN6];rfl
    rw[this];push_cast;grind
   have C:unX (sZ a) (tnO k) (tnU k)=true:=by
    rw[hX,V];refine kF2 ?_;have:P=2*h*low:=by rw[eP,J,D,kN6];rfl
    rw[this];refine Int.emod_eq_zero_of_dvd ⟨-(low:Int),?_⟩;push_cast;grind
   rw[C,H,kF2 J];simp
  ·have H:unF (sZ a) (tnO k) (tnU k) = -((low:Int)+1):=by
    rw[hF,V];have h7 : -(P:Int)=((2*h:Nat):Int)*(-((low:Int)+1))+((2*h - r:Nat):Int):=by
     have h8:((2*h - r:Nat):Int)=2*(h:Int) - (r:Int):=ω;rw[h8,eP,D];push_cast;grind
    rw[h7,Int.mul_add_ediv_left _ _ ω,Int.ediv_eq_zero_of_lt ω ω,Int.add_zero]
   have C:unX (sZ a) (tnO k) (tnU k)=false:=by
    rw[hX,V];refine kF1 fun h9=>?_;have W:=Int.dvd_of_emod_eq_zero h9;rw[Int.dvd_neg,Int.natCast_dvd_natCast] at W;have:=Nat.mod_eq_zero_of_dvd W
    omega
   have qQ:(-((low:Int)+1)*2+1)*(h:Int) = -((2*T+h:Nat):Int):=by
    rw[←eT];grind
   rw[C,hA _ _ H,H,V,qQ,kF1 J];rcases(by omega:m=1∨m=2∨m=3)with rfl|rfl|rfl
   ·simp
    omega
   ·have c1:decide (-((2*T+h:Nat):Int) < -(P:Int))=decide (r<h):=by
     by_cases c:r<h
     ·rw[kF2 c,kF2 ω]
     ·rw[kF1 c,kF1 ω]
    have c2:decide (-((2*T+h:Nat):Int) = -(P:Int))=decide (r=h):=by
     by_cases c:r=h
     ·rw[kF2 c,kF2 ω]
     ·rw[kF1 c,kF1 ω]
    have c3:decide (-((low:Int)+1) % 2=1) = !decide (low % 2=1):=by
     by_cases c:low % 2=1
     ·rw[kF2 c,kF1 ω];rfl
     ·rw[kF1 c,kF2 ω];rfl
    rw[c1,c2,c3];simp only[Bool.not_false,Bool.true_and,show((2:Int)=3)=False by simp,decide_false,Bool.false_or,decide_true,if_true,Bool.false_eq_true,if_false]
    rcases(by omega:r<h∨r=h∨h<r)with c|c|c
    ·rw[kF2 c,kF1 (show ¬ 2*h<2*r by omega),kF1 (show ¬ 2*r=2*h by omega)]
     simp
     omega
    ·rw[kF1 (show ¬ r<h by omega),kF2 c,kF1 (show ¬ 2*h<2*r by omega),kF2 (show 2*r=2*h by omega)]
     by_cases c4:low % 2=1
     ·rw[kF2 c4];simp;omega
     ·rw[kF1 c4];simp;omega
    ·rw[kF1 (show ¬ r<h by omega),kF1 (show ¬ r=h by omega),kF2 (show 2*h<2*r by omega)]
     simp
     omega
   ·simp
    omega
theorem qL5 (F:Nat) (s:Bool) (w:World)
  (Y:∀ W,Ca 80 #[.float .f64 F] W fun r w'=>r=.returned (.bool s)∧w'=W)
  (J:(FloatKind.f64.format.order F F != some Ordering.eq)=true) :
  Ca 27 #[.float .f64 F] w fun r w'=>r=.returned (.tuple #[.string ⟨#[110,97,110]⟩,.bool true])∧w'=w:=by
 cases s
 all_goals
  go_enter Tryz.func27,Tryz.ntmps27
  go_wp2_with (go_at_call 80;refine(Y _).mono ?_;rintro r w' ⟨rfl,u⟩;replace u:=u.symm;subst u)
  refine kB8 (kM3 rfl _ _ _) rfl ?_;exact⟨rfl,rfl⟩
theorem qL6 (F:Nat) (s:Bool) (w:World)
  (V:∀ W,Ca 80 #[.float .f64 F] W fun r w'=>r=.returned (.bool s)∧w'=W)
  (T:(FloatKind.f64.format.order F F != some Ordering.eq)=false)
  (u:(FloatKind.f64.format.order F 9218868437227405311==some Ordering.gt)=true∨((FloatKind.f64.format.order F 9218868437227405311==some Ordering.gt)=false∧(FloatKind.f64.format.order F 18442240474082181119==some Ordering.lt)=true)) :
  Ca 27 #[.float .f64 F] w fun r w'=>r=.returned (.tuple #[.string ⟨(sgL s [105,110,102]).toArray⟩,.bool true])∧w'=w:=by
 have C:(⟨#[]⟩:ByteArray).size+(⟨#[105,110,102]⟩:ByteArray).size≤9223372036854775807:=by
  rw[show(⟨#[]⟩:ByteArray).size=0 from rfl,show(⟨#[105,110,102]⟩:ByteArray).size=3 from rfl];omega
 have L:(⟨#[45]⟩:ByteArray).size+(⟨#[105,110,102]⟩:ByteArray).size≤9223372036854775807:=by
  rw[show(⟨#[45]⟩:ByteArray).size=1 from rfl,show(⟨#[105,110,102]⟩:ByteArray).size=3 from rfl];omega
 have H:=qZ0 [] [105,110,102];have e2:=qZ0 [45] [105,110,102];rcases u with J|⟨J,D⟩
 all_goals
  cases s
  all_goals
   go_enter Tryz.func27,Tryz.ntmps27
   go_wp2_with (go_at_call 80;refine(V _).mono ?_;rintro r w' ⟨rfl,Y⟩;replace Y:=Y.symm;subst Y)
   refine kB8 (kM3 rfl _ _ _) rfl ?_;refine⟨?_,rfl⟩
   first|(rw[←e2];rfl)|(rw[←H];rfl)|rfl
theorem yT3 {a:Nat} (ha:a<18446744073709551616) (w:World):Ca 35 #[.float .f64 a] w fun r w'=>OutQ w (un ((fU a:Nat):Int) 1074) r w':=by
 have hm:=xG1 a ha;have e:sU (mag a)=((fU a:Nat):Int):=by
  unfold sU;have h1:neg (mag a)=false:=by unfold neg mag;exact kF1 ω
  have h2:mag (mag a)=mag a:=by unfold mag;omega
  rw[h1,kU5 δ];unfold fU Ie.mant Ie.lp;rw[h2]
 obtain⟨W,J⟩:=eE (w.alloc (.cells (Nu false none 0 0 0) 54));have u:Hid (Bw w W∧Hn W w.heap.size false none 0 0 0 54):=⟨by rw[J];exact bR.alloc lR _,by rw[J];exact kB7 _ _⟩
 have I:=fun V=>c159 a ha V;have H:=fun V=>xF8 (a:=mag a) hm V;rw[e] at H;clear e
 go_enter Tryz.func35,Tryz.ntmps35
 go_upto_region 1 with fail;rw[←J];clear J
 go_wp2_with (go_at_call 17;refine(I _).mono ?_;rintro r w' ⟨rfl,F⟩;replace F:=F.symm;subst F)
 refine(H _).mono ?_
 rintro r w1 ⟨A,rfl,T,D⟩;obtain⟨s1,C,n1,L,e1,rfl⟩:=T.shape;have Y:Hid _:=aI3 (u.out.1.trans (D.mono u.out.1.size)) (qQ0 u.out.2 D (qQ7 u.out.2)) T;clear I H T D u;obtain⟨⟨d0,d1,d2⟩,f0,f1,f2⟩:=qQ1 Y.out.2.1
 go_wp2_with fail;refine kB8 (kM2 rfl _ _ (w.heap.size) 54 (Nu s1 C n1 L e1) (0,0) _ rfl (qZ9 _ _ _ Y.out.2.1) Tryz.underlying54 rfl Tryz.info54) rfl ?_;exact⟨_,_,_,_,_,rfl,Y.out.2.2.storeQ Y.out.2.1 _ _ _,qQ4 Y.out.1 lR _ _ _⟩
theorem xB1 (d:List UInt8) (p:Int) (w:World) (V:d.length≤20000) (Y:p=0) (J:¬ d = []):Ca 40 #[.string ⟨d.toArray⟩,iV p] w (Rq w (.string ⟨d.toArray⟩)):=by
 subst Y;have u:(⟨d.toArray⟩:ByteArray).size=d.length:=rfl
 go_enter Tryz.func40,Tryz.ntmps40
 go_wp2
 go_ret;exact⟨rfl,kH9 _ _⟩
theorem kQ7 (E:List UInt8) (p:Int) (q:Nat) (w:World) (hd:E.length≤50000) (V:¬ p=0) (C:0≤p) (W:p≤20000) (hl:¬ (E.length:Int)≤p) (Y:Hid ((E.length:Int) - p=(q:Int))) :
  Ca 40 #[.string ⟨E.toArray⟩,iV p] w (Rq w (.string ⟨(E.take q++46 :: E.drop q).toArray⟩)):=by
 have J:(⟨E.toArray⟩:ByteArray).size=E.length:=rfl;have F:IntKind.i64.wrap ((E.length:Int) - p)=(q:Int):=by rw[Y.out,kB5];have:=Y.out;omega
 have D:(q:Int)≤(E.length:Int):=by have:=Y.out;omega
 have u:q≤E.length:=ω;have H:Hid (q≤E.length∧E.length≤60000):=⟨u,ω⟩;have qQ:((⟨E.toArray⟩:ByteArray).extract 0 q).size+(⟨#[46]⟩:ByteArray).size≤9223372036854775807:=by
  rw[qK0,bsz,List.length_take,show(⟨#[46]⟩:ByteArray).size=1 from rfl];have:=H.out;omega
 have I:((⟨E.toArray⟩:ByteArray).extract 0 q++⟨#[46]⟩).size+((⟨E.toArray⟩:ByteArray).extract q E.length).size≤9223372036854775807:=by
  rw[qK0,qJ3,show(⟨#[46]⟩:ByteArray)=⟨[46].toArray⟩from rfl,qZ0,bsz,bsz,kM0,List.length_take,List.length_drop];have:=H.out;simp;omega
 have T:(0:Int)≤(q:Int):=ω;have HB:Hid (Bw w w):=kH9 _ _;have L:(p==0)=false:=by rw[kN2];exact V
 clear V
 go_enter Tryz.func40,Tryz.ntmps40
 go_upto_region 5 with fail
 go_quiet (fail)
 go_wp2
 go_ret;refine⟨?_,qH9 HB.out nq⟩
 show Ending.returned (Value.string _)=Ending.returned (Value.string _)
 rw[qK0,qJ3,show(⟨#[46]⟩:ByteArray)=⟨[46].toArray⟩from rfl,qZ0,qZ0,List.append_assoc];rfl
theorem kQ6 (d E:List UInt8) (p:Int) (q:Nat) (w:World) (hd:d.length≤20000) (D:¬ p=0) (qV:0≤p) (qJ:p≤20000) (hl:(d.length:Int)≤p) (T:Hid (E=nzL (p+1 - d.length)++d)) (J:Hid ((E.length:Int) - p=(q:Int))) :
  Ca 40 #[.string ⟨d.toArray⟩,iV p] w (Rq w (.string ⟨(E.take q++46 :: E.drop q).toArray⟩)):=by
 have qZ:(⟨d.toArray⟩:ByteArray).size=d.length:=rfl;have qQ:IntKind.i64.wrap (p+1)=p+1:=by rw[kB5];omega
 have I:IntKind.i64.wrap (p+1 - (d.length:Int))=p+1 - (d.length:Int):=by rw[kB5];omega
 have H:=d4nz (p+1 - (d.length:Int)) w ω;have V:=qD0 (p+1 - (d.length:Int));have W:E.length=(p+1 - (d.length:Int)).toNat+d.length:=by rw[T.out,kM0,V]
 have qH:(⟨(nzL (p+1 - (d.length:Int))).toArray⟩:ByteArray).size+d.length≤9223372036854775807:=by simp only[bsz];omega
 have eC:(⟨(nzL (p+1 - (d.length:Int))).toArray⟩:ByteArray)++⟨d.toArray⟩=⟨E.toArray⟩:=by rw[qZ0,←T.out]
 have F:(⟨E.toArray⟩:ByteArray).size=E.length:=rfl;have C:IntKind.i64.wrap ((E.length:Int) - p)=(q:Int):=by rw[J.out,kB5];have:=J.out;omega
 have qY:(q:Int)≤(E.length:Int):=by have:=J.out;omega
 have u:q≤E.length:=ω;have L:Hid (q≤E.length∧E.length≤60000):=⟨u,ω⟩;have qG:((⟨E.toArray⟩:ByteArray).extract 0 q).size+(⟨#[46]⟩:ByteArray).size≤9223372036854775807:=by
  rw[qK0,bsz,List.length_take,show(⟨#[46]⟩:ByteArray).size=1 from rfl];have:=L.out;omega
 have qU:((⟨E.toArray⟩:ByteArray).extract 0 q++⟨#[46]⟩).size+((⟨E.toArray⟩:ByteArray).extract q E.length).size≤9223372036854775807:=by
  rw[qK0,qJ3,show(⟨#[46]⟩:ByteArray)=⟨[46].toArray⟩from rfl,qZ0,bsz,bsz,kM0,List.length_take,List.length_drop];have:=L.out;simp;omega
 have qX:(0:Int)≤(q:Int):=ω;have qK:(p==0)=false:=by rw[kN2];exact D
 clear D V W
 go_enter Tryz.func40,Tryz.ntmps40
 go_wp2_with fail;refine H.mono ?_;rintro r w1 ⟨rfl,Y⟩;have HB:Hid _:=Y;clear H Y
 go_upto_region 5 with fail
 go_quiet (fail)
 go_wp2
 go_ret;refine⟨?_,qH9 HB.out nq⟩
 show Ending.returned (Value.string _)=Ending.returned (Value.string _)
 rw[qK0,qJ3,show(⟨#[46]⟩:ByteArray)=⟨[46].toArray⟩from rfl,qZ0,qZ0,List.append_assoc];rfl
theorem yU7 (d:List UInt8) (p:Int) (w:World) (H:d.length≤20000) (u:1≤d.length) (J:0≤p∧p≤20000):Ca 40 #[.string ⟨d.toArray⟩,iV p] w (Rq w (.string ⟨(ptL d p).toArray⟩)):=by
 have F:=qD0 (p+1 - (d.length:Int));have D:(nzL (p+1 - d.length)++d).length=(p+1 - (d.length:Int)).toNat+d.length:=by rw[kM0,F]
 by_cases V:(d.length:Int)≤p
 ·by_cases Y:p=0
  ·exfalso;omega
  ·have k:=kQ6 d (nzL (p+1 - d.length)++d) p ((nzL (p+1 - d.length)++d).length - p.toNat) w H Y J.1 J.2 V rfl (by show _=_;omega)
   unfold ptL;rw[kU5 ω];exact k
 ·by_cases Y:p=0
  ·have h:=xB1 d p w H Y (by intro h;rw[h] at u;simp at u)
   subst Y;have e:ptL d 0=d:=by
    unfold ptL;rw[kU6 δ,show nzL (1 - (d.length:Int)) = [] by unfold nzL;rw[show(1 - (d.length:Int)).toNat=0 by omega];rfl,show nzL (-0) = [] from rfl,List.append_nil,kG9]
   rw[e];exact h
  ·have e:nzL (p+1 - d.length)++d=d:=by unfold nzL;rw[show(p+1 - (d.length:Int)).toNat=0 by omega];rfl
   have k:=kQ7 d p (d.length - p.toNat) w ω Y J.1 J.2 V (by show _=_;omega)
   unfold ptL;rw[kU5 ω,e];exact k
theorem xC1 (N:Nat) {p:Int} (J:0≤p):ptL (dcD N) p=ptL (dcR N) p:=by
 unfold dcD;by_cases Y:N=0
 ·subst Y;rw[kU6 rfl,kQ5];have e:nzL (p+1 - (([48]:List UInt8).length:Int)) ++ [48]=nzL (p+1 - (([]:List UInt8).length:Int)) ++ []:=by
   unfold nzL;rw[List.append_nil,show(p+1 - (([]:List UInt8).length:Int)).toNat=(p+1 - (([48]:List UInt8).length:Int)).toNat+1 by simp;omega,List.replicate_succ']
  unfold ptL;by_cases u:p≤0
  ·obtain rfl:p=0:=ω;rfl
  ·rw[kU5 u,kU5 u,e]
 ·rw[kU5 Y]
theorem zM0 {a:Nat} (u:9218868437227405312<mag a):cls a=1:=by
 unfold cls;rw[kU6 ω]
theorem zM1 {a:Nat} (J:mag a=9218868437227405312):cls a=2∧cneg a=neg a:=by
 have u:¬ (9218868437227405312:Int)<(mag a:Int):=ω;unfold cls cneg;rw[kU5 u,kU5 u];have Y:((mag a:Int)==9218868437227405312)=true:=by rw[beq_iff_eq];omega
 rw[Y];exact⟨by simp,rfl⟩
theorem zH8 {a:Nat} (J:a<18446744073709551616) (h:mag a=9218868437227405312):(FloatKind.f64.format.order a a != some Ordering.eq)=false∧((FloatKind.f64.format.order a 9218868437227405311==some Ordering.gt)=true∨((FloatKind.f64.format.order a 9218868437227405311==some Ordering.gt)=false∧(FloatKind.f64.format.order a 18442240474082181119==some Ordering.lt)=true)):=by
 have D:stp 9218868437227405311=9218868437227405311:=by decide
 have e2:stp 18442240474082181119 = -9218868437227405311:=by decide
 have F:qY9 a=false:=by unfold qY9;exact kF1 ω
 have H:stp a=if neg a then -(mag a:Int) else(mag a:Int):=by unfold stp sgn;rfl
 have V:=qA0 a a J J;have u:=yI4 a 9218868437227405311 J δ;have Y:=yI3 a 18442240474082181119 J δ;unfold eq at V;unfold lt at u Y;rw[D] at u;rw[e2] at Y;rw[F] at V u Y;rw[H,h] at u Y;refine⟨?_,?_⟩
 ·show(!(FloatKind.f64.format.order a a==some Ordering.eq))=false
  rw[V];simp
 ·cases hg:neg a
  ·rw[hg] at u;exact .inl (by rw[u];decide)
  ·rw[hg] at u Y;exact .inr ⟨by rw[u];decide,by rw[Y];decide⟩
theorem zH7 {a:Nat} (Y:a<18446744073709551616) (h:9218868437227405312<mag a):(FloatKind.f64.format.order a a != some Ordering.eq)=true:=by
 have J:qY9 a=true:=by unfold qY9;exact kF2 ω
 have u:=qA0 a a Y Y;unfold eq at u;rw[J] at u;show(!(FloatKind.f64.format.order a a==some Ordering.eq))=true
 rw[u];rfl
theorem yE5 (s:Bool) (t:List UInt8):(if s then(⟨#[45]⟩:ByteArray) else⟨#[]⟩)++⟨t.toArray⟩=⟨(sgL s t).toArray⟩:=by
 cases s
 ·exact qZ0 [] t
 ·exact qZ0 [45] t
theorem xB0 {N b:Nat} (h:N<2^b):(dcD N).length≤18*(b / 59+1)∧1≤(dcD N).length:=by
 unfold dcD;by_cases u:N=0
 ·rw[kU6 u];simp;omega
 ·rw[kU5 u];have J:=zN4 h;rw[yU5] at J;refine⟨J,?_⟩
  rcases Nat.lt_or_ge 0 (dcR N).length with Y|Y
  ·exact Y
  ·exact absurd (zY5.1 (List.length_eq_zero_iff.1 ω)) u
theorem yU8 (s0:Bool) (qX:Option Addr) (n0 qZ:Nat) (e0:Int) (hh x0 X:Int) (ta qH qG:Bool×Nat×Int) (tS:Int→Bool×Nat×Int) (bS:Int→Bool) (c1 c2:Int→Int) (w:World) (hA:DN w (.agg (Nu s0 qX n0 qZ e0)) ta)
  (qO : -5000≤hh∧hh≤5000) (qA:Int.tdiv ((hh - 1)*30103) 100000=x0) (qK:Hid (-400≤x0∧x0≤400 ∧ -400≤X∧X≤400))
  (kH:∀ W A,DN W A ta→Ca 44 #[A] W (Rq W (iV hh)))
  (kS:Hid (∀ x,-400≤x→x≤400→∀ W A,DN W A ta→Ca 82 #[A,iV (-x+1)] W fun r w'=>OutS W (tS x) (bS x) r w'))
  (qW:Hid (∀ W,Ca 46 #[iV 10] W fun r w'=>OutQ W qH r w'))
  (qL:Hid (∀ W,Ca 46 #[iV 100] W fun r w'=>OutQ W qG r w'))
  (qE:Hid (∀ x,-400≤x→x≤400→∀ W A B,DN W A (tS x)→DN W B qH→Ca 49 #[A,B] W (Rq W (iV (c1 x)))))
  (qC:Hid (∀ x,-400≤x→x≤400→∀ W A B,DN W A (tS x)→DN W B qG→Ca 49 #[A,B] W (Rq W (iV (c2 x)))))
  (hc:Hid (∀ x,-400≤x→x≤400→(X<x→c1 x<0)∧(x<X→0≤c1 x∧0≤c2 x)∧(x=X→0≤c1 x∧c2 x<0))) :
  Ca 81 #[.agg (Nu s0 qX n0 qZ e0)] w (Rq w (iV X)):=by
 obtain⟨W,hW⟩:=eE (w.alloc (.cells (Nu s0 qX n0 qZ e0) 54));have H0:Hid (NbQ W w.heap.size s0 qX n0 qZ e0 ta∧Bw w W):=by
  have hb:Bw w W:=by rw[hW];exact bR.alloc lR _
  exact⟨⟨by rw[hW];exact kB7 _ _,hA.later hb⟩,hb⟩
 obtain⟨⟨c0,qS,qD⟩,-⟩:=qQ1 H0.out.1.1;have q1:=kH W _ H0.out.1.2;have u1:IntKind.i64.wrap (hh - 1)=hh - 1:=by rw[kB5];omega
 have u2:IntKind.i64.wrap ((hh - 1)*30103)=(hh - 1)*30103:=by rw[kB5];omega
 have u3:IntKind.i64.wrap x0=x0:=by have:=qK.out;rw[kB5];omega
 clear kH hA
 go_enter Tryz.func81,Tryz.ntmps81
 go_upto_region 1 with fail;rw[←hW];clear hW
 go_wp2_with fail;refine q1.mono ?_;rintro r w1 ⟨rfl,H⟩;have H1:Hid _:=And.intro (H0.out.1.later H) (H0.out.2.trans (H.mono H0.out.2.size));clear q1 H H0 c0 qS qD qO
 go_wp2_with fail;clear u1 u2 u3 qA
 go_loopw [3] (fun v wr=>∃ x:Int,v=iV x ∧ -400≤x∧x≤400∧Hid (NbQ wr w.heap.size s0 qX n0 qZ e0 ta∧Bw w wr)) (fun v _=>(intOf v - X).natAbs)
 case atStart=>exact⟨x0,rfl,qK.out.1,qK.out.2.1,H1⟩
 case round =>
  obtain⟨x,rfl,Y,qB,HI⟩:=hrel;clear H1;obtain⟨⟨c0,qS,qD⟩,-⟩:=qQ1 HI.out.1.1;have q1:=kS.out x Y qB wr _ HI.out.1.2;have u1:IntKind.i64.wrap (-x) = -x:=by rw[kB5];omega
  have u2:IntKind.i64.wrap (-x+1) = -x+1:=by rw[kB5];omega
  have u3:IntKind.i64.wrap (x - 1)=x - 1:=by rw[kB5];omega
  have u4:IntKind.i64.wrap (x+1)=x+1:=by rw[kB5];omega
  have Y:Hid _:=And.intro Y qB;clear qB
  go_upto_region 2 with fail
  go_wp2_with fail;refine q1.mono ?_;rintro r w2 ⟨s1,qY,n1,qQ,e1,rfl,qR,qM⟩;obtain⟨V,hV⟩:=eE (w2.alloc (.cells (Nu s1 qY n1 qQ e1) 54));obtain⟨g4,qN⟩:=eE w2.heap.size;have I:Hid (NbQ V w.heap.size s0 qX n0 qZ e0 ta∧NbQ V g4 s1 qY n1 qQ e1 (tS x)∧Bw w V):=by
   have qT:Bw w2 V:=by rw[hV];exact bR.alloc lR _
   have hb:=qM.trans (qT.mono qM.size);exact⟨HI.out.1.later hb,⟨by rw[hV,qN];exact kB7 _ _,qR.later qT⟩,HI.out.2.trans (hb.mono HI.out.2.size)⟩
  clear q1 qR qM HI c0 qS qD
  go_upto_region 4 with fail;rw[←hV,←qN];clear hV qN;obtain⟨b1,H⟩:=eE (decide (c1 x<0));have L:decide (c1 x<0)=b1:=H.symm;have D:Hid _:=H;clear H;refine qJ2 [0,1,2,3,4] [21,22,23,24,20] [[],[],[0,1],[2],[3]] V _ [isV (.agg (Nu s1 qY n1 qQ e1)),isD qH,isV (iV (c1 x)),isV (.bool b1),isV (.bool b1)] (by kernel_rfl) ⟨qQ2 _,qX9 _,qQ2 _,qQ2 _,qQ2 _,trivial⟩ (by show ∀ s ∈ [21,22,23,24,20],s<34;decide) ?_ ?_
  ·intro j hj o ho act U hb qV J;have qI:j<5:=hj;have qF:act.tmps[(4:Nat)]?=some (Value.pointer (some ⟨g4,0,none⟩)):=(qV 4 δ).trans rfl;have d4:=(qQ1 (I.out.2.1.later hb).1).1;rcases(by omega:j=0∨j=1∨j=2∨j=3∨j=4)with rfl|rfl|rfl|rfl|rfl
   ·obtain rfl:=kF0 ho;exact .inl ⟨rfl,qJ0 rfl qF d4.1 d4.2.1 d4.2.2 ⟨_,rfl,rfl,kH9 _ _⟩⟩
   ·obtain rfl:=kF0 ho;refine .inl ⟨rfl,qQ9 rfl (qZ4 Tryz.func46 (by kernel_rfl) (by kernel_rfl)) (vs:=#[(Value.int IntKind.i64 10)]) (by simp[qY1]) ?_⟩
    refine(qW.out U).mono ?_
    rintro r w' ⟨s9,zZ,n9,zQ,e9,rfl,qP,C⟩;exact⟨_,rfl,_,rfl,qP,C⟩
   ·obtain rfl:=kF0 ho;have y0:act.tmps[(21:Nat)]?=_:=dV (J 0 (by simp[dL])) rfl
    obtain⟨u1,qU,v1⟩:=J 1 (by simp[dL])
    have y1:act.tmps[(22:Nat)]?=_:=qU;refine .inl ⟨rfl,qQ9 rfl (qZ4 Tryz.func49 (by kernel_rfl) (by kernel_rfl)) (vs:=#[.agg (Nu s1 qY n1 qQ e1),u1]) (by simp[qZ1 y0,qZ1 y1]) ?_⟩
    refine(qE.out x Y.out.1 Y.out.2 U _ _ (I.out.2.1.later hb).2 v1).mono ?_
    rintro r w' ⟨rfl,C⟩;exact⟨_,rfl,_,rfl,rfl,C⟩
   ·obtain rfl:=kF0 ho;have y2:act.tmps[(23:Nat)]?=_:=dV (J 2 (by simp[dL])) rfl
    exact .inl ⟨rfl,qZ6 (w':=U) (by simp[execOp,y2,qY1,go_sem,L]) ⟨_,rfl,rfl,kH9 _ _⟩⟩
   ·obtain rfl:=kF0 ho;have y3:act.tmps[(24:Nat)]?=_:=dV (J 3 (by simp[dL])) rfl
    exact .inl ⟨rfl,qX5 rfl y3 ⟨_,rfl,rfl,kH9 _ _⟩⟩
  ·intro u W9 F hu;have u4:u 4=.bool b1:=hu 4 (by show 4<5;decide)
   clear hu;simp only[putL,show List.range 5 = [0,1,2,3,4] from rfl,kG2,kG3,kG4,kG5,kH2,kH3,kH0,kG9,List.foldl_cons,List.foldl_nil,Nat.reduceLT,Nat.reduceMod,Nat.reduceDiv,Nat.reduceMul,Nat.reduceAdd,Nat.reduceEqDiff,reduceIte,kG8,Act.put,kU9,kG0,kG1];rw[u4];clear u4;have H3:Hid _:=aI3 (I.out.1.later F) (I.out.2.1.later F) (I.out.2.2.trans (F.mono I.out.2.2.size));clear F I L;rcases(by cases b1 <;> simp:b1=true∨b1=false)with hE|hE
   ·subst hE;have qJ:Hid (¬ x≤X):=(fun h=>by
     have h1:=hc.out x Y.out.1 Y.out.2;have h2:c1 x<0:=of_decide_eq_true D.out.symm;rcases(by omega:x<X∨x=X)with h3|h3
     ·have:=(h1.2.1 h3).1;omega
     ·have:=(h1.2.2 h3).1;omega:¬ x≤X)
    clear D
    go_wp2_with fail;exact⟨⟨x - 1,rfl,by have:=qJ.out;have:=qK.out;omega,by have:=Y.out;omega,H3.out.1,H3.out.2.2⟩,by have:=qJ.out;simp[intOf];omega⟩
   ·subst hE;have qJ:Hid (x≤X):=(by
     have h1:=hc.out x Y.out.1 Y.out.2;have h2:¬ c1 x<0:=of_decide_eq_false D.out.symm;exact Int.not_lt.1 fun h=>h2 (h1.1 h):x≤X)
    clear D
    go_upto_region 6 with fail;obtain⟨V,hV⟩:=eE W9;rw[←hV] at H3 ⊢;clear hV;have I:=H3;clear H3;obtain⟨b2,H⟩:=eE (decide (0≤c2 x));have L:decide (0≤c2 x)=b2:=H.symm;have D:Hid _:=H;clear H;refine qJ2 [0,1,2,3,4] [28,29,30,31,27] [[],[],[0,1],[2],[3]] V _ [isV (.agg (Nu s1 qY n1 qQ e1)),isD qG,isV (iV (c2 x)),isV (.bool b2),isV (.bool b2)] (by kernel_rfl) ⟨qQ2 _,qX9 _,qQ2 _,qQ2 _,qQ2 _,trivial⟩ (by show ∀ s ∈ [28,29,30,31,27],s<34;decide) ?_ ?_
    ·intro j hj o ho act U hb qV J;have qI:j<5:=hj;have qF:act.tmps[(4:Nat)]?=some (Value.pointer (some ⟨g4,0,none⟩)):=(qV 4 δ).trans rfl;have d4:=(qQ1 (I.out.2.1.later hb).1).1;rcases(by omega:j=0∨j=1∨j=2∨j=3∨j=4)with rfl|rfl|rfl|rfl|rfl
     ·obtain rfl:=kF0 ho;exact .inl ⟨rfl,qJ0 rfl qF d4.1 d4.2.1 d4.2.2 ⟨_,rfl,rfl,kH9 _ _⟩⟩
     ·obtain rfl:=kF0 ho;refine .inl ⟨rfl,qQ9 rfl (qZ4 Tryz.func46 (by kernel_rfl) (by kernel_rfl)) (vs:=#[(Value.int IntKind.i64 100)]) (by simp[qY1]) ?_⟩
      refine(qL.out U).mono ?_
      rintro r w' ⟨s9,zZ,n9,zQ,e9,rfl,qP,C⟩;exact⟨_,rfl,_,rfl,qP,C⟩
     ·obtain rfl:=kF0 ho;have y0:act.tmps[(28:Nat)]?=_:=dV (J 0 (by simp[dL])) rfl
      obtain⟨u1,qU,v1⟩:=J 1 (by simp[dL])
      have y1:act.tmps[(29:Nat)]?=_:=qU;refine .inl ⟨rfl,qQ9 rfl (qZ4 Tryz.func49 (by kernel_rfl) (by kernel_rfl)) (vs:=#[.agg (Nu s1 qY n1 qQ e1),u1]) (by simp[qZ1 y0,qZ1 y1]) ?_⟩
      refine(qC.out x Y.out.1 Y.out.2 U _ _ (I.out.2.1.later hb).2 v1).mono ?_
      rintro r w' ⟨rfl,C⟩;exact⟨_,rfl,_,rfl,rfl,C⟩
     ·obtain rfl:=kF0 ho;have y2:act.tmps[(30:Nat)]?=_:=dV (J 2 (by simp[dL])) rfl
      exact .inl ⟨rfl,qZ6 (w':=U) (by simp[execOp,y2,qY1,go_sem,L]) ⟨_,rfl,rfl,kH9 _ _⟩⟩
     ·obtain rfl:=kF0 ho;have y3:act.tmps[(31:Nat)]?=_:=dV (J 3 (by simp[dL])) rfl
      exact .inl ⟨rfl,qX5 rfl y3 ⟨_,rfl,rfl,kH9 _ _⟩⟩
    ·intro u W9 F hu;have u4:u 4=.bool b2:=hu 4 (by show 4<5;decide)
     clear hu;simp only[putL,show List.range 5 = [0,1,2,3,4] from rfl,kG2,kG3,kG4,kG5,kH2,kH3,kH0,kG9,List.foldl_cons,List.foldl_nil,Nat.reduceLT,Nat.reduceMod,Nat.reduceDiv,Nat.reduceMul,Nat.reduceAdd,Nat.reduceEqDiff,reduceIte,kG8,Act.put,kU9,kG0,kG1];rw[u4];clear u4;have H3:Hid _:=aI3 (I.out.1.later F) (I.out.2.1.later F) (I.out.2.2.trans (F.mono I.out.2.2.size));clear F I L;rcases(by cases b2 <;> simp:b2=true∨b2=false)with hE|hE
     ·subst hE;have T:Hid (x<X):=(by
       have h1:=hc.out x Y.out.1 Y.out.2;have h2:0≤c2 x:=of_decide_eq_true D.out.symm;rcases(by have:=qJ.out;omega:x<X∨x=X)with h3|h3
       ·exact h3
       ·have:=(h1.2.2 h3).2;omega:x<X)
      clear D
      go_wp2_with fail;exact⟨⟨x+1,rfl,by have:=Y.out;omega,by have:=T.out;have:=qK.out;omega,H3.out.1,H3.out.2.2⟩,by have:=T.out;simp[intOf];omega⟩
     ·subst hE;have T:x=X:=by
       have h1:=hc.out x Y.out.1 Y.out.2;have h2:¬ 0≤c2 x:=of_decide_eq_false D.out.symm;rcases(by have:=qJ.out;omega:x<X∨x=X)with h3|h3
       ·have:=(h1.2.1 h3).2;omega
       ·exact h3
      have HX:Hid _:=T;clear D T
      go_wp2_with fail
      go_ret;exact⟨by rw[←HX.out];rfl,H3.out.2.2⟩
theorem qW9 (A:Nat) (k:Int):scF A k=scF A (k+1) / 10:=by
 unfold scF;rw[kN0];rcases Int.lt_or_le k 0 with h|h
 ·have u:tnO k=tnO (k+1):=by unfold tnO;rw[show k.toNat=0 by omega,show(k+1).toNat=0 by omega]
  have e2:tnU k=tnU (k+1)*10:=by unfold tnU;rw[show(-k).toNat=(-(k+1)).toNat+1 by omega,kN5]
  rw[u,e2];generalize kU=K;rw[Nat.mul_right_comm]
 ·have u:tnO (k+1)=tnO k*10:=by unfold tnO;rw[show(k+1).toNat=k.toNat+1 by omega,kN5]
  have e2:tnU (k+1)=tnU k:=by unfold tnU;rw[show(-k).toNat=0 by omega,show(-(k+1)).toNat=0 by omega]
  rw[u,e2];generalize kU=K;rw[←kN6,Nat.mul_div_mul_right _ _ δ]
theorem qS7 (A:Nat) (k:Int):∀ j:Nat,scF A (k - (j:Int))=scF A k / 10^j
 | 0=>by simp
 | j+1=>by
  have h:=qW9 A (k - ((j+1:Nat):Int));rw[show k - ((j+1:Nat):Int)+1=k - (j:Int) by omega,qS7 A k j,kN0] at h
  rw[h,kN5]
def woZ (b:Nat):Int:=((b:Nat) - (kP:Int) - 1)*1262611 / 4194304
def woC (b:Nat):Bool:=Nat.ble (tnU (-woZ b)*kU) (2^(b - 1)*tnO (-woZ b))&&Nat.ble (2^b*tnO (-woZ b - 2)) (tnU (-woZ b - 2)*kU)
theorem xP3:(List.range 2200).all (fun i=>woC (i+1))=true:=by decide +kernel
theorem wo_b {b:Nat} (V:1≤b) (J:b≤2200):tnU (-woZ b)*kU≤2^(b - 1)*tnO (-woZ b)∧2^b*tnO (-woZ b - 2)≤tnU (-woZ b - 2)*kU:=by
 have h:=List.all_eq_true.1 xP3 (b - 1) (List.mem_range.2 ω);rw[show b - 1+1=b by omega] at h
 unfold woC at h;obtain⟨Y,u⟩:=Bool.and_eq_true_iff.1 h;exact⟨Nat.le_of_ble_eq_true Y,Nat.le_of_ble_eq_true u⟩
theorem xD2 (A:Nat) (k:Int):unF (A:Int) (tnO k) (tnU k)=((scF A k:Nat):Int):=by
 unfold unF scF;rw[qI8,←kN8,←Int.natCast_ediv]
theorem xN2 {A:Nat} (V:A≠0):2^(bl A - 1)≤A∧A<2^bl A:=by
 have u:=(qJ4 A (bl A)).1 lR;refine⟨?_,u⟩
 rcases Nat.lt_or_ge A (2^(bl A - 1))with h|h
 ·have J:=(qJ4 A (bl A - 1)).2 h;have Y:bl A=0:=ω;rw[Y] at u;simp at u
  omega
 ·exact h
theorem qW5 {A:Nat} (W:A<2^bU) (J:A≠0):10≤scF A (1 - woX A)∧scF A (1 - woX A)≤99 ∧ -400≤woX A∧woX A≤400:=by
 obtain⟨b1,b2⟩:=yH6 W J;obtain⟨H,V⟩:=wo_b b1 b2;obtain⟨D,F⟩:=xN2 J;have Y:woX0 A=woZ (bl A):=rfl;have hx : -399≤woX0 A∧woX0 A≤399:=by
  have hk:=qN5;unfold woX0;generalize kP=x at *;omega
 have g1:1≤scF A (-woX0 A):=by
  unfold scF;rw[Nat.one_le_div_iff (zZ6 _)];rw[Y];exact kF8 H (kF5 _ D)
 have g2:scF A (-woX0 A - 2)=0:=by
  unfold scF;refine Nat.div_eq_of_lt ?_;rw[Y];refine kF6 (kM4 F (kH1 δ)) V
 have I:=qW9 A (-woX0 A - 2);rw[show -woX0 A - 2+1 = -woX0 A - 1 by omega] at I
 have C:=qW9 A (-woX0 A - 1);rw[show -woX0 A - 1+1 = -woX0 A by omega] at C
 have L:=xD2 A (-woX0 A - 1);have u:∀ X:Int,1≤scF A (-X)→scF A (-X)≤9→10≤scF A (1 - X)∧scF A (1 - X)≤99:=by
  intro X k1 k2;have T:=qW9 A (-X);rw[show -X+1=1 - X by omega] at T
  omega
 unfold woX;rw[L];by_cases h:0<((scF A (-woX0 A - 1):Nat):Int)
 ·rw[kU6 h];have:=u (woX0 A+1) (by rw[show -(woX0 A+1) = -woX0 A - 1 by omega];omega) (by rw[show -(woX0 A+1) = -woX0 A - 1 by omega];omega)
  exact⟨this.1,this.2,ω,ω⟩
 ·rw[kU5 h];have:=u (woX0 A) g1 ω
  exact⟨this.1,this.2,ω,ω⟩
theorem xS1 {n:Int} (h : -33000000≤n∧n≤34000000) : -400≤Int.tdiv n 100000∧Int.tdiv n 100000≤400:=by
 rcases Int.lt_or_le n 0 with u|u
 ·obtain⟨m,rfl⟩:∃ m:Int,n = -m:=⟨-n,ω⟩;rw[Int.neg_tdiv,kG6 ω];omega
 ·rw[kG6 u];omega
theorem pl_gt {u v j:Nat} (J:u≤99) (h:v=u / 10^(j+1)):cmpI ((v:Nat):Int) 10<0:=by
 have Y:u / 10^(j+1)≤u / 10:=Nat.div_le_div_left (by rw[kN5];have:0<10^j:=kH1 δ;omega) δ
 rw[←h] at Y;have V:v<10:=ω;rcases qY2 ((v:Nat):Int) 10 with h|h|h <;> omega
theorem pl_lt {u v j:Nat} (J:10≤u) (h:u=v / 10^(j+1)):0≤cmpI ((v:Nat):Int) 10∧0≤cmpI ((v:Nat):Int) 100:=by
 have Y:v / 10^(j+1)≤v / 10:=Nat.div_le_div_left (by rw[kN5];have:0<10^j:=kH1 δ;omega) δ
 rw[←h] at Y;have V:100≤v:=ω;constructor
 ·rcases qY2 ((v:Nat):Int) 10 with h|h|h <;> omega
 ·rcases qY2 ((v:Nat):Int) 100 with h|h|h <;> omega
theorem pl_eq {u:Nat} (J:10≤u) (Y:u≤99):0≤cmpI ((u:Nat):Int) 10∧cmpI ((u:Nat):Int) 100<0:=by
 constructor
 ·rcases qY2 ((u:Nat):Int) 10 with h|h|h <;> omega
 ·rcases qY2 ((u:Nat):Int) 100 with h|h|h <;> omega
theorem xB5 {A:Nat} {X:Value} {w:World} (J:A<2^bU) (I:A≠0) (C:DN w X (un (A:Int) 1074)) :
  Ca 81 #[X] w (Rq w (iV (woX A))):=by
 obtain⟨s,ao,n,cp,e,rfl⟩:=C.shape;obtain⟨b1,b2⟩:=yH6 J I;obtain⟨L,T,p3,p4⟩:=qW5 J I;have hb:=qF2;have h8:=zU3;refine yU8 s ao n cp e ((bl A:Int) - 1074) _ (woX A) _ (un 10 0) (un 100 0) (fun x=>un ((scF A (-x+1):Nat):Int) 0) (fun x=>scE A (-x+1)) (fun x=>cmpI ((scF A (-x+1):Nat):Int) 10) (fun x=>cmpI ((scF A (-x+1):Nat):Int) 100) w C ⟨ω,ω⟩ rfl ?_ ?_ ?_ ?_ ?_ ?_ ?_ ?_
 ·have:=xS1 (n:=((bl A:Int) - 1074 - 1)*30103) ω
  exact⟨this.1,this.2,p3,p4⟩
 ·intro W Y u;have h:=xO (qY4 J) ω ω (show((A:Nat):Int)≠0 by omega) u
  rw[kN1] at h;exact h
 ·exact fun x D F W Y u=>zT6 J ω u
 ·exact fun W=>(qA4 (n:=10) ω W).mono fun r w' h=>outQ h
 ·exact fun W=>(qA4 (n:=100) ω W).mono fun r w' h=>outQ h
 ·exact fun x D F W Y Z u H=>zY4 (qY4 (zS1 J ω).1) (show((10:Int)).natAbs<2^7 by decide) ω ω ω u H
 ·exact fun x D F W Y Z u H=>zY4 (qY4 (zS1 J ω).1) (show((100:Int)).natAbs<2^7 by decide) ω ω ω u H
 ·intro x D F;refine⟨fun h=>?_,fun h=>?_,fun h=>?_⟩
  ·obtain⟨j,hj⟩:∃ j:Nat,x=woX A+((j+1:Nat):Int):=⟨(x - woX A - 1).toNat,ω⟩;have V:=qS7 A (1 - woX A) (j+1);rw[show 1 - woX A - ((j+1:Nat):Int) = -x+1 by omega] at V
   exact pl_gt T V
  ·obtain⟨j,hj⟩:∃ j:Nat,woX A=x+((j+1:Nat):Int):=⟨(woX A - x - 1).toNat,ω⟩;have V:=qS7 A (-x+1) (j+1);rw[show -x+1 - ((j+1:Nat):Int)=1 - woX A by omega] at V
   exact pl_lt L V
  ·rw[h,show -woX A+1=1 - woX A by omega]
   exact pl_eq L T
theorem yH2 (b:Nat):bv (b+1)=bv b+2^(max 1 (b / 4503599627370496) - 1):=by
 by_cases h:b<4503599627370496
 ·have Y:=qD3 (j:=0) (q:=b) (.inl ⟨rfl,ω⟩);have u:=qD3 (j:=0) (q:=b+1) (.inl ⟨rfl,ω⟩);rw[show max 1 (b / 4503599627370496) - 1=0 by omega]
  simp at Y u ⊢
  rw[Y,u]
 ·have Y:=qD3 (j:=b / 4503599627370496 - 1) (q:=4503599627370496+b % 4503599627370496) (.inr ⟨ω,ω⟩);have u:=qD3 (j:=b / 4503599627370496 - 1) (q:=4503599627370496+b % 4503599627370496+1) (.inr ⟨ω,ω⟩);rw[show(b / 4503599627370496 - 1)*4503599627370496+(4503599627370496+b % 4503599627370496)=b by omega] at Y
  rw[show(b / 4503599627370496 - 1)*4503599627370496+(4503599627370496+b % 4503599627370496+1)=b+1 by omega] at u
  rw[Y,u,show max 1 (b / 4503599627370496) - 1=b / 4503599627370496 - 1 by omega,Nat.add_mul _ 1,Nat.one_mul]
theorem zU4 {a:Nat} (h:a<9223372036854775808):fU a=bv a:=by
 have u:mag a=a:=by unfold mag;omega
 unfold fU Ie.mant Ie.lp;rw[u];by_cases c:a<4503599627370496
 ·rw[kU6 c,show(-1075+max 1 ((a / 4503599627370496:Nat):Int)+1074).toNat=0 by omega]
  have:=qD3 (j:=0) (q:=a) (.inl ⟨rfl,ω⟩)
  simpa using this.symm
 ·rw[kU5 c,show(-1075+max 1 ((a / 4503599627370496:Nat):Int)+1074).toNat=a / 4503599627370496 - 1 by omega]
  have:=qD3 (j:=a / 4503599627370496 - 1) (q:=4503599627370496+a % 4503599627370496) (.inr ⟨ω,ω⟩)
  rw[show(a / 4503599627370496 - 1)*4503599627370496+(4503599627370496+a % 4503599627370496)=a by omega] at this
  exact this.symm
theorem zX4 {a:Nat} (h:a<9223372036854775808):sZ a=((bv a:Nat):Int):=by
 unfold sZ;rw[zU4 h,show neg a=false by unfold neg;exact kF1 ω]
 exact kU5 δ
def utC (i:Nat):Bool:=Nat.beq (bv (Ie.mk false 1 ((i:Int) - 1074) 2 9221120237041090561)) (2^i)&&Nat.blt (Ie.mk false 1 ((i:Int) - 1074) 2 9221120237041090561) 9218868437227405312
theorem xP7:(List.range 2046).all utC=true:=by decide +kernel
theorem xP6 {a:Nat} (h:a<9218868437227405312):utF a<9218868437227405312∧bv (a+1)=bv a+bv (utF a):=by
 have H:=yH2 a;have V:mag a=a:=by unfold mag;omega
 have J:=List.all_eq_true.1 xP7 (max 1 (a / 4503599627370496) - 1) (List.mem_range.2 ω);unfold utC at J;obtain⟨Y,u⟩:=Bool.and_eq_true_iff.1 J;have e:(((max 1 (a / 4503599627370496) - 1:Nat):Int) - 1074)=Ie.lp a:=by unfold Ie.lp;rw[V];omega
 rw[e] at Y u;have F:=Nat.eq_of_beq_eq_true Y;refine⟨?_,?_⟩
 ·unfold utF;exact Nat.le_of_ble_eq_true u
 ·rw[H,←F];rfl
theorem kK9 {a:Nat} (h:0<a):bv (a+1)≤2*bv a:=by
 obtain⟨j,q,e,Y,e2⟩:=yH3 a;have u:=zY9 h;rw[Y] at u;have V:q≠0:=by intro J;rw[J,Nat.zero_mul] at u;omega
 rw[Y,e2,←kN6];exact kF5 _ ω
theorem zR0 {a:Nat} (u:0<a) (h:a<9218868437227405312):loZ a=((bv (a - 1)+bv a:Nat):Int):=by
 unfold loZ;rw[zX4 ω,zX4 ω,Int.natCast_add]
theorem zU0 {a:Nat} (h:a<9218868437227405312):hiZ a=((bv a+bv (a+1):Nat):Int):=by
 obtain⟨Y,u⟩:=xP6 h;unfold hiZ;rw[zX4 ω,zX4 ω,u];omega
theorem qA3 (Z a:Nat):flQ (Z:Int) a=((Z*shO a / (shU a*2^kQ):Nat):Int):=by
 unfold flQ;rw[←kN8,←Int.natCast_ediv]
theorem kQ_q (U:Nat):U*2^kQ=2*(U*2^kP):=by rw[kQ_n,kN5,←kN6,kN4]
theorem kP_q (U:Nat):U*2^kP=2*(U*2^kP1):=by rw[qI8,zX9,Nat.mul_left_comm]
def shG (a:Nat):Nat:=bv a*shO a / (shU a*2^kP)
theorem xY0 {a:Nat} (H:0<a) (h:a<9218868437227405312):10000000000000000≤shG a∧shG a<100000000000000000:=by
 have V:fU a≠0:=by
  rw[zU4 ω];have u:=zY9 H;rw[xN0] at u;omega
 obtain⟨J,Y,-,-⟩:=qW5 (qI9 a) V;have u:=qS7 (fU a) (16 - shX a) 15;have D:16 - shX a - ((15:Nat):Int)=1 - woX (fU a):=by unfold shX;omega
 rw[D] at u;have e2:scF (fU a) (16 - shX a)=shG a:=by
  unfold scF shG shO shU;rw[←qI8,zU4 ω]
 rw[e2] at u;rw[u] at J Y;have F:(10:Nat)^15=1000000000000000:=by decide
 rw[F] at J Y;omega
theorem yQ5 {N q Z:Nat} (h:Z≤2*N):Z / (2*q)≤N / q:=by
 have u:Z / (2*q)≤2*N / (2*q):=Nat.div_le_div_right h
 rwa [Nat.mul_div_mul_left _ _ δ] at u
theorem xX9 {N q Z:Nat} (h:2*N≤Z):N / q≤Z / (2*q):=by
 have u:2*N / (2*q)≤Z / (2*q):=Nat.div_le_div_right h
 rwa [Nat.mul_div_mul_left _ _ δ] at u
theorem zF5 (N q:Nat):N / (2*q)=N / q / 2:=by rw[kN0,kN4]
theorem shOk {a:Nat} (u:0<a) (h:a<9218868437227405312):ShOk a:=by
 obtain⟨C,W⟩:=xY0 u h;have V:(bv (a - 1)+bv a)*shO a / (shU a*2^kQ)≤shG a:=by
  rw[kQ_q];refine yQ5 ?_;have:bv (a - 1)≤bv a:=yH0 ω
  rw[←kN6];exact kF5 _ ω
 have H:shG a≤(bv a+bv (a+1))*shO a / (shU a*2^kQ):=by
  rw[kQ_q];refine xX9 ?_;have:bv a≤bv (a+1):=yH0 ω
  rw[←kN6];exact kF5 _ ω
 have J:bv a*shO a / (shU a*2^kP1) / 2=shG a:=by
  unfold shG;rw[kP_q,zF5]
 have Y:(bv a+bv (a+1))*shO a / (shU a*2^kQ)≤bv a*shO a / (shU a*2^kP1):=by
  rw[kQ_q,kP_q];refine kF8 (yQ5 (N:=2*(bv a*shO a)) ?_) (yQ5 (N:=bv a*shO a) lR);have:=kK9 u
  rw[←kN6,←kN6];exact kF5 _ ω
 have T:=zR0 u h;have L:=zU0 h;have I:shTz a=((bv a*shO a / (shU a*2^kP1):Nat):Int):=by
  unfold shTz;rw[zX4 ω,←kN8,←Int.natCast_ediv]
 have F:=qA3 (bv (a - 1)+bv a) a;have D:=qA3 (bv a+bv (a+1)) a;rw[←T] at F;rw[←L] at D;generalize (bv (a - 1)+bv a)*shO a / (shU a*2^kQ)=l at *;generalize (bv a+bv (a+1))*shO a / (shU a*2^kQ)=r at *;generalize bv a*shO a / (shU a*2^kP1)=t at *;exact⟨u,h,(xP6 h).1,ω,by unfold shN;omega,ω,by unfold shM;omega,ω,by unfold shT;omega⟩
theorem xU0 {Z a:Nat} (Y:Z≠0) (F:0<a) (h:a<9218868437227405312):nrF (Z:Int)=a↔RdN a Z 1:=by
 have V:=qN5;have J:=kQ_n;have u:=(qX0 _ _ lR Y).1;have hx:Z / 2^tz Z≠0:=by intro H;rw[H,Nat.mul_zero] at u;omega
 unfold nrF;rw[qB8 Z kQ Y];rw[kN4] at u;generalize Z / 2^tz Z=x at *;generalize tz Z=t at *;generalize kQ=Q at *;generalize kP=p at *;obtain⟨K,T⟩:∃ K:Nat,K=70000:=⟨_,rfl⟩;show tfF false true x ((t:Int) - (Q:Int)) 2=a↔_
 rw[qF5 ω,yQ2];show bdy _ _ 1=a↔_
 rw[zK1 (K:=K) ω hx ω F h,←RdN.scale (c:=a) (P:=Z) (Q:=1) (k:=UU K) (xQ8 K),Nat.one_mul];have e:2*VA K x ((t:Int) - (Q:Int))=Z*UU K:=by
  unfold VA UU;rw[←u];have D:2*(x*2^((t:Int) - (Q:Int)+(K:Int)).toNat)=x*2^(((t:Int) - (Q:Int)+(K:Int)).toNat+1):=by rw[kN5];ac_rfl
  rw[D,kN6,←kN3,pe (show((t:Int) - (Q:Int)+(K:Int)).toNat+1=t+(K - 1074) by omega)]
 rw[e]
theorem nr_le {Z:Nat} (u:Z≠0):nrF (Z:Int)≤9218868437227405312:=by
 unfold nrF;rw[qB8 Z kQ u];show tfF false true _ _ 2≤_
 rw[qF5 ω,yQ2];exact xQ6 _ _ _
theorem zR2 {Z a:Nat} (u:Z≠0) (J:0<a) (h:a<9218868437227405312):isR (Z:Int) a=true↔RdN a Z 1:=by
 have Y:=nr_le u;rw[←xU0 u J h];unfold isR;rw[qA0 _ a ω ω,yO3 Y ω];exact decide_eq_true_iff
theorem xA6 {a:Nat} (Y:0<a) (h:a<9218868437227405312):isR (loZ a) a=decide (a % 2=0):=by
 have J:bv (a - 1)<bv a:=zY9 ω;have m2:=qN7 a;rw[zR0 Y h];have:=zR2 (Z:=bv (a - 1)+bv a) ω Y h
 unfold RdN at this;rw[Bool.eq_iff_iff,this,decide_eq_true_iff];constructor
 ·rintro⟨u|u,-⟩ <;> omega
 ·intro u;exact⟨.inr ω,.inl ω⟩
theorem xA7 {a:Nat} (Y:0<a) (h:a<9218868437227405312):isR (hiZ a) a=decide (a % 2=0):=by
 have J:bv (a - 1)<bv a:=zY9 ω;have m2:=qN7 a;rw[zU0 h];have:=zR2 (Z:=bv a+bv (a+1)) ω Y h
 unfold RdN at this;rw[Bool.eq_iff_iff,this,decide_eq_true_iff];constructor
 ·rintro⟨-,u|u⟩ <;> omega
 ·intro u;exact⟨.inl ω,.inr ω⟩
theorem yJ9 (Z a:Nat):exq (Z:Int) a=decide (Z*shO a % (shU a*2^kQ)=0):=by
 unfold exq;rw[←kN8,←Int.natCast_emod];exact decide_eq_decide.2 ω
theorem xG3 {p d N:Nat} {Y:Prop} [Decidable Y] (J:0<d):(if(decide (p % d=0)&&decide Y)=true then p / d else p / d+1)≤N↔p<N*d∨(p=N*d∧Y):=by
 have F:=Nat.div_add_mod p d;have D:=kB3 p J;by_cases c:p % d=0∧Y
 ·rw[kU6 (by simpa using c)]
  have e:p / d*d=p:=Nat.div_mul_cancel (Nat.dvd_of_mod_eq_zero c.1);constructor
  ·intro h;have:=kF5 d h
   rw[e] at this;rcases Nat.lt_or_ge p (N*d)with u|u
   ·exact .inl u
   ·exact .inr ⟨ω,c.2⟩
  ·intro h;refine Nat.le_of_mul_le_mul_right (c:=d) ?_ J;rw[e];rcases h with h|⟨h,-⟩ <;> omega
 ·rw[kU5 (by simpa using c)]
  have u:p / d+1≤N↔p<N*d:=kM6 J;rw[u];constructor
  ·exact .inl
  ·rintro(V|⟨V,H⟩)
   ·exact V
   ·exfalso;exact c ⟨by rw[V];exact Nat.mul_mod_left _ _,H⟩
theorem xH3 {p d N:Nat} {Y:Prop} [Decidable Y] (J:0<d) (F:0<p / d):N≤(if(decide (p % d=0) && !decide Y)=true then p / d - 1 else p / d)↔N*d<p∨(N*d=p∧Y):=by
 by_cases c:p % d=0∧¬ Y
 ·rw[kU6 (by simpa using c)]
  have e:=Nat.div_mul_cancel (Nat.dvd_of_mod_eq_zero c.1);constructor
  ·intro h;left
   have u:N<p / d:=ω;have:=kM4 u J
   rwa [e] at this
  ·rintro(h|⟨-,h⟩)
   ·rw[←e] at h;have:=Nat.lt_of_mul_lt_mul_right h
    omega
   ·exact absurd h c.2
 ·rw[kU5 (by simpa using c),Nat.le_div_iff_mul_le J]
  constructor
  ·intro h;rcases Nat.lt_or_ge (N*d) p with u|u
   ·exact .inl u
   ·right
    refine⟨ω,?_⟩
    have H:p % d=0:=by rw[show p=N*d by omega];exact Nat.mul_mod_left _ _
    exact Classical.byContradiction fun V=>c ⟨H,V⟩
  ·rintro(h|⟨h,-⟩) <;> omega
theorem zX0 {a N:Nat} (u:0<a) (h:a<9218868437227405312):shL a≤N↔(bv (a - 1)+bv a)*shO a<N*(shU a*2^kQ)∨((bv (a - 1)+bv a)*shO a=N*(shU a*2^kQ)∧a % 2=0):=by
 have Y:0<shU a*2^kQ:=Nat.mul_pos (kH1 δ) (qH0 _);have J:shN a=(bv (a - 1)+bv a)*shO a / (shU a*2^kQ):=by unfold shN;rw[zR0 u h,qA3,kN9]
 unfold shL;rw[J,xA6 u h,zR0 u h,yJ9,xG3 Y]
theorem zF6 {a N:Nat} (Y:0<a) (h:a<9218868437227405312):N≤shH a↔N*(shU a*2^kQ)<(bv a+bv (a+1))*shO a∨(N*(shU a*2^kQ)=(bv a+bv (a+1))*shO a∧a % 2=0):=by
 have u:=(shOk Y h).hi;have J:0<shU a*2^kQ:=Nat.mul_pos (kH1 δ) (qH0 _);have e2:shM a=(bv a+bv (a+1))*shO a / (shU a*2^kQ):=by unfold shM;rw[zU0 h,qA3,kN9]
 have V:0<(bv a+bv (a+1))*shO a / (shU a*2^kQ):=by
  rw[zU0 h,qA3] at u;exact Int.natCast_pos.1 u
 unfold shH;rw[e2,xA7 Y h,zU0 h,yJ9,xH3 J V]
theorem xR {a N:Nat} (u:0<a) (h:a<9218868437227405312):(shL a≤N∧N≤shH a)↔RdN a (N*(shU a*2^kQ)) (shO a):=by
 rw[zX0 u h,zF6 u h,RdN]
theorem xO1 (b:Nat):bv (b+1)≤9007199254740992*(bv (b+1) - bv b):=by
 have u:=yH2 b;by_cases h:b<4503599627370496
 ·have Y:=qD3 (j:=0) (q:=b+1) (.inl ⟨rfl,ω⟩);rw[show max 1 (b / 4503599627370496) - 1=0 by omega] at u
  simp at Y u
  omega
 ·have Y:=qD3 (j:=b / 4503599627370496 - 1) (q:=4503599627370496+b % 4503599627370496+1) (.inr ⟨ω,ω⟩);rw[show(b / 4503599627370496 - 1)*4503599627370496+(4503599627370496+b % 4503599627370496+1)=b+1 by omega] at Y
  rw[show max 1 (b / 4503599627370496) - 1=b / 4503599627370496 - 1 by omega] at u
  rw[show bv (b+1) - bv b=2^(b / 4503599627370496 - 1) by rw[u,Nat.add_sub_cancel_left],Y]
  exact kF5 _ ω
theorem gapN {x y O d g:Nat} (h:x≤9007199254740992*y) (u:10000000000000000*d≤x*O) (Y:0<d):d<y*O:=by
 have J:x*O≤9007199254740992*(y*O):=by rw[←kN6];exact kF5 _ h
 omega
theorem sh17 {a:Nat} (V:0<a) (h:a<9218868437227405312):shL a≤shG a∨shG a+1≤shH a:=by
 obtain⟨C,-⟩:=xY0 V h;have J:0<shU a*2^kP:=Nat.mul_pos (kH1 δ) (qH0 _);rw[zX0 V h,zF6 V h,kQ_q];have m1:bv (a - 1)<bv a:=zY9 ω;have m2:=qN7 a;have H:=xO1 (a - 1);have q2:=xO1 a;rw[show a - 1+1=a by omega] at H
 have Y:=Nat.div_add_mod (bv a*shO a) (shU a*2^kP);have hm:=kB3 (bv a*shO a) J;have W:bv a*shO a / (shU a*2^kP)=shG a:=rfl;rw[W] at Y;generalize shG a=G at *;generalize shU a*2^kP=d at *;have F:10000000000000000*d≤bv a*shO a:=by
  have:10000000000000000*d≤G*d:=kF5 _ C
  rw[kN4 d G] at Y;omega
 have k1:=gapN (g:=0) H F J;have T:=gapN (x:=bv a) (y:=bv (a+1) - bv a) (g:=0) ω F J;obtain⟨u,hu⟩:∃ u,bv a=bv (a - 1)+u:=⟨bv a - bv (a - 1),ω⟩;obtain⟨v,hv⟩:∃ v,bv (a+1)=bv a+v:=⟨bv (a+1) - bv a,ω⟩;rw[show bv a - bv (a - 1)=u by omega] at k1
 rw[show bv (a+1) - bv a=v by omega] at T
 have e1:(bv (a - 1)+bv a)*shO a+u*shO a=2*(bv a*shO a):=by
  rw[←Nat.add_mul,←kN6];congr 1
  omega
 have e2:(bv a+bv (a+1))*shO a=2*(bv a*shO a)+v*shO a:=by
  rw[←kN6,←Nat.add_mul];congr 1
  omega
 have D:G*(2*d)=2*(d*G):=by ac_rfl
 have I:(G+1)*(2*d)=2*(d*G)+2*d:=by rw[Nat.add_mul,D,Nat.one_mul]
 rw[e2,D,I];generalize bv a*shO a % d=r at *;generalize bv a*shO a=N at *;generalize (bv (a - 1)+bv a)*shO a=L at *;generalize u*shO a=U' at *;generalize v*shO a=V' at *;generalize d*G=dG at *;rcases Nat.lt_or_ge d (2*r)with hr|hr
 ·right;left;omega
 ·left;left;omega
theorem tenX {a b:Nat} (h:a=b):(10:Nat)^a=10^b:=by rw[h]
theorem zZ5 (k:Int) (j:Nat):tnU k*tnO (k+j)=10^j*tnU (k+j)*tnO k:=by
 unfold tnU tnO;rw[←kN3,←kN3,←kN3];exact tenX ω
def loD (a i:Nat):Nat:=scF (fU a) ((i:Int) - shX a)
def exD (a i:Nat):Bool:=scE (fU a) ((i:Int) - shX a)
def hiD (a i:Nat):Nat:=if exD a i then loD a i else loD a i+1
def Bk (a N:Nat) (k:Int):Prop:=RdN a (N*(tnU k*2^kQ)) (tnO k)
theorem qA1 {a i:Nat} (hi:i≤16) (J:0<a) (h:a<9218868437227405312):loD a i*fwU i=fwL (shT a) i:=by
 have u:=qS7 (fU a) (16 - shX a) (16 - i);rw[show 16 - shX a - ((16 - i:Nat):Int)=(i:Int) - shX a by omega] at u
 have e2:scF (fU a) (16 - shX a)=shG a:=by
  unfold scF shG shO shU;rw[←qI8,zU4 ω]
 have Y:shT a / 2=shG a:=by
  unfold shT shTz shG;rw[zX4 ω,←kN8,←Int.natCast_ediv,kN9,kP_q,zF5]
 unfold loD fwL fwU;rw[u,e2,Y]
theorem kJ2 {a N i:Nat} (hi:i≤16) (J:0<a) (h:a<9218868437227405312):Bk a N ((i:Int) - shX a)↔shL a≤N*fwU i∧N*fwU i≤shH a:=by
 rw[xR J h];unfold Bk shO shU fwU;have Y:=zZ5 ((i:Int) - shX a) (16 - i);rw[show(i:Int) - shX a+((16 - i:Nat):Int)=16 - shX a by omega] at Y
 refine RdN.cross (s:=tnO (16 - shX a)) (t:=tnO ((i:Int) - shX a)) (kH1 δ) (kH1 δ) ?_ (kN4 _ _);generalize tnO (16 - shX a)=O at *;generalize tnU (16 - shX a)=U at *;generalize tnO ((i:Int) - shX a)=o at *;generalize tnU ((i:Int) - shX a)=u at *;generalize 2^kQ=q;have V:N*(u*q)*O=N*q*(u*O):=by ac_rfl
 have e2:N*10^(16 - i)*(U*q)*o=N*q*(10^(16 - i)*U*o):=by ac_rfl
 rw[V,e2,Y]
theorem xR2 {a:Nat} (J:0<a) (h:a<9218868437227405312):shG a≤shH a∧shL a≤shG a+1:=by
 have F:0<shU a*2^kP:=Nat.mul_pos (kH1 δ) (qH0 _);rw[zX0 J h,zF6 J h,kQ_q];have W:bv (a - 1)<bv a:=zY9 ω;have m2:=qN7 a;have Y:0<shO a:=kH1 δ;have u:=Nat.div_add_mod (bv a*shO a) (shU a*2^kP);have C:=kB3 (bv a*shO a) F;have D:bv a*shO a / (shU a*2^kP)=shG a:=rfl;rw[D] at u;have I:(bv (a - 1)+bv a)*shO a<2*(bv a*shO a):=by rw[←kN6];exact kM4 ω Y
 have e2:2*(bv a*shO a)<(bv a+bv (a+1))*shO a:=by rw[←kN6];exact kM4 ω Y
 generalize shG a=G at *;generalize shU a*2^kP=d at *;have V:G*(2*d)=2*(d*G):=by ac_rfl
 have T:(G+1)*(2*d)=2*(d*G)+2*d:=by rw[Nat.add_mul,V,Nat.one_mul]
 rw[V,T];generalize bv a*shO a % d=r at *;generalize bv a*shO a=N at *;generalize (bv (a - 1)+bv a)*shO a=L at *;generalize (bv a+bv (a+1))*shO a=H at *;generalize d*G=dG at *;exact⟨.inl ω,.inl ω⟩
theorem xR0 {a:Nat} (h:a<9218868437227405312):shT a / 2=shG a:=by
 unfold shT shTz shG;rw[zX4 ω,←kN8,←Int.natCast_ediv,kN9,kP_q,zF5]
theorem fwG {a i:Nat} (h:a<9218868437227405312):fwL (shT a) i≤shG a∧shG a+1≤fwL (shT a) i+fwU i:=by
 have e:=xR0 h;unfold fwL;rw[e];have u:=Nat.div_add_mod (shG a) (fwU i);have Y:=kB3 (shG a) (qD2 i);rw[kN4] at u;omega
theorem kJ3 {a i:Nat} (hi:i≤16) (u:0<a) (h:a<9218868437227405312):Bk a (loD a i) ((i:Int) - shX a)↔shL a≤fwL (shT a) i:=by
 obtain⟨J,Y⟩:=xR2 u h;obtain⟨H,V⟩:=fwG (i:=i) h;rw[kJ2 hi u h,qA1 hi u h];exact⟨fun k=>k.1,fun k=>⟨k,ω⟩⟩
theorem bk_hi {a i:Nat} (hi:i≤16) (u:0<a) (h:a<9218868437227405312):Bk a (loD a i+1) ((i:Int) - shX a)↔fwL (shT a) i+fwU i≤shH a:=by
 obtain⟨J,Y⟩:=xR2 u h;obtain⟨H,V⟩:=fwG (i:=i) h;rw[kJ2 hi u h,Nat.add_mul,qA1 hi u h,Nat.one_mul];exact⟨fun k=>k.2,fun k=>⟨ω,k⟩⟩
def mdM (a i:Nat):Nat:=2*fwL (shT a) i+fwU i
theorem xT {A low r Ok Uk O U K u N d1:Nat} (H:A*Ok=Uk*(2*K)*low+r) (Y:Uk*O=u*U*Ok) (V:N=A*O) (J:d1=U*K) :
  (2*low*u*d1)*(2*Ok)+2*r*O=N*(2*Ok)∧(u*d1)*(2*Ok)=Uk*(2*K)*O:=by
 subst V J;constructor
 ·have D:A*O*(2*Ok)=2*(A*Ok)*O:=by ac_rfl
  rw[D,H,Nat.mul_add,Nat.add_mul];have e2:2*(Uk*(2*K)*low)*O=2*(2*K)*low*(Uk*O):=by ac_rfl
  rw[e2,Y];congr 1
  ac_rfl
 ·have F:Uk*(2*K)*O=2*K*(Uk*O):=by ac_rfl
  rw[F,Y]
  ac_rfl
theorem xT0 {Q r O N M d1 Ok low2u ud:Nat} (u:0<O) (H:0<Ok) (T:low2u*d1*(2*Ok)+2*r*O=N*(2*Ok)) (D:ud*d1*(2*Ok)=Q*O) (F:M=low2u+ud):(Q<2*r↔M*d1<N)∧(2*r=Q↔N=M*d1):=by
 have e:M*d1*(2*Ok)=low2u*d1*(2*Ok)+Q*O:=by rw[F,Nat.add_mul,Nat.add_mul,D]
 have k1:M*d1<N↔M*d1*(2*Ok)<N*(2*Ok):=(Nat.mul_lt_mul_right ω).symm;have V:N=M*d1↔N*(2*Ok)=M*d1*(2*Ok):=⟨fun h=>by rw[h],fun h=>Nat.eq_of_mul_eq_mul_right ω h⟩
 have J:Q<2*r↔Q*O<2*r*O:=(Nat.mul_lt_mul_right u).symm;have Y:2*r=Q↔2*r*O=Q*O:=⟨fun h=>by rw[h],fun h=>Nat.eq_of_mul_eq_mul_right u h⟩
 rw[k1,V,J,Y,e,←T];omega
theorem xY5 {a i:Nat} (hi:i≤16) (T:0<a) (h:a<9218868437227405312) :
  (tnU ((i:Int) - shX a)*kU<2*scR (fU a) ((i:Int) - shX a)↔mdM a i*(shU a*2^kP1)<bv a*shO a)∧(2*scR (fU a) ((i:Int) - shX a)=tnU ((i:Int) - shX a)*kU↔bv a*shO a=mdM a i*(shU a*2^kP1)):=by
 have J:=zZ5 ((i:Int) - shX a) (16 - i);rw[show(i:Int) - shX a+((16 - i:Nat):Int)=16 - shX a by omega] at J
 obtain⟨V,-⟩:=yZ0 (fU a) ((i:Int) - shX a);have F:=qA1 hi T h;have D:0<tnO (16 - shX a):=kH1 δ;have Y:0<tnO ((i:Int) - shX a):=kH1 δ;unfold mdM;rw[←F,zU4 ω] at *;unfold loD fwU shO shU;rw[zU4 ω,zX9] at *;generalize scF (bv a) ((i:Int) - shX a)=low at *;generalize scR (bv a) ((i:Int) - shX a)=r at *;generalize tnO (16 - shX a)=O at *;generalize tnU (16 - shX a)=U at *;generalize tnO ((i:Int) - shX a)=o at *;generalize tnU ((i:Int) - shX a)=u at *;generalize 2^kP1=K at *;obtain⟨k1,H⟩:=xT (A:=bv a) (low:=low) (r:=r) (Ok:=o) (Uk:=u) (O:=O) (U:=U) (K:=K) (u:=10^(16 - i)) V J rfl rfl;exact xT0 D Y (low2u:=2*low*10^(16 - i)) (ud:=10^(16 - i)) k1 H (by rw[kN6])
theorem xM3 {N d M T:Nat} (J:0<d) (V:T=N / d):(M*d<N↔M<T∨(T=M∧¬ N % d=0))∧(N=M*d↔T=M∧N % d=0):=by
 have H:=Nat.div_add_mod N d;have F:=kB3 N J;rw[←V,kN4] at H;have u:∀ x y:Nat,x<y→x*d+d≤y*d:=fun x y Y=>by
  have:=kF5 d (show x+1≤y from Y)
  rwa [Nat.add_mul,Nat.one_mul] at this
 rcases Nat.lt_trichotomy M T with c|c|c
 ·have:=u M T c
  constructor <;> constructor
  ·intro _;exact .inl c
  ·intro _;omega
  ·intro _;omega
  ·rintro⟨k,-⟩;omega
 ·subst c;constructor <;> constructor
  ·intro _;exact .inr ⟨rfl,ω⟩
  ·rintro(k|⟨-,k⟩) <;> omega
  ·intro _;exact⟨rfl,ω⟩
  ·rintro⟨-,k⟩;omega
 ·have:=u T M c
  constructor <;> constructor
  ·intro _;omega
  ·rintro(k|⟨k,-⟩) <;> omega
  ·intro _;omega
  ·rintro⟨k,-⟩;omega
theorem yQ9 {a:Nat} (Y:shJ a≤16) (J:0<a) (h:a<9218868437227405312):shA a=decide (tnU ((shJ a:Int) - shX a)*kU<2*scR (fU a) ((shJ a:Int) - shX a)∨(2*scR (fU a) ((shJ a:Int) - shX a)=tnU ((shJ a:Int) - shX a)*kU∧loD a (shJ a) % 2=1)):=by
 obtain⟨k1,F⟩:=xY5 Y J h;have C:=qA1 Y J h;have D:=qD2 (shJ a);have W:=yO0 (shT a) (shJ a);have I:0<shU a*2^kP1:=Nat.mul_pos (kH1 δ) (qH0 _);have hT:shT a=bv a*shO a / (shU a*2^kP1):=by
  unfold shT shTz;rw[zX4 ω,←kN8,←Int.natCast_ediv,kN9]
 have hI:shI a=decide (bv a*shO a % (shU a*2^kP1)=0):=by
  unfold shI;rw[zX4 ω,←kN8,←Int.natCast_emod];exact decide_eq_decide.2 ω
 obtain⟨H,V⟩:=xM3 (M:=mdM a (shJ a)) I hT;have L:fwL (shT a) (shJ a) / fwU (shJ a)=loD a (shJ a):=by rw[←C,Nat.mul_div_cancel _ D]
 rw[Bool.eq_iff_iff,decide_eq_true_iff,k1,F,H,V];unfold shA;rw[hI,L];unfold mdM;simp only[Bool.or_eq_true,kB9,decide_eq_true_iff,Bool.not_eq_true',decide_eq_false_iff_not];generalize bv a*shO a % (shU a*2^kP1)=R;generalize loD a (shJ a)=low;generalize fwL (shT a) (shJ a)=l at *;generalize fwU (shJ a)=u at *;generalize shT a=T at *;omega
theorem xO2 (L H T:Nat):∀ n j,n+j=16→fwS L H T n j≤16:=by
 intro n;induction n with
 | zero=>intro j u;unfold fwS;omega
 | succ n ih =>
  intro j u;unfold fwS;split
  ·exact ih (j+1) ω
  ·omega
theorem qE3 (a:Nat):shJ a≤16:=xO2 _ _ _ 16 0 rfl
theorem yM1 {a:Nat} (V:0<a) (h:a<9218868437227405312):(∀ i,i<shJ a→¬ shL a≤fwL (shT a) i∧¬ fwL (shT a) i+fwU i≤shH a)∧(shL a≤fwL (shT a) (shJ a)∨fwL (shT a) (shJ a)+fwU (shJ a)≤shH a):=by
 obtain⟨Y,s2⟩:=zT1 (shL a) (shH a) (shT a) 16 0 rfl (fun i hi=>absurd hi ω);have J:=qE3 a;refine⟨fun i hi=>?_,?_⟩
 ·have:=Y i hi
  omega
 ·show shL a≤fwL (shT a) (shJ a)∨_
  by_cases c:1<fwU (shJ a)
  ·have:=fun x=>s2 ⟨c,x⟩
   by_cases d:shL a≤fwL (shT a) (shJ a)
   ·exact .inl d
   ·right
    rcases Nat.lt_or_ge (shH a) (fwL (shT a) (shJ a)+fwU (shJ a))with e|e
    ·exact absurd ⟨by unfold shJ at d;omega,by unfold shJ at e;exact e⟩ this
    ·exact e
  ·have H:=qD2 (shJ a);have u:fwU (shJ a)=1:=ω;have e2:fwL (shT a) (shJ a)=shG a:=by
    unfold fwL;rw[u,kM1,Nat.div_one,xR0 h]
   rw[u,e2];exact sh17 V h
theorem yR6 {a i:Nat} (hi:i≤16) (D:0<a) (h:a<9218868437227405312) (H:exD a i=true):shL a≤fwL (shT a) i∧scR (fU a) ((i:Int) - shX a)=0:=by
 have V:scR (fU a) ((i:Int) - shX a)=0:=by
  unfold exD scE at H;unfold scR;exact of_decide_eq_true H
 refine⟨?_,V⟩
 have F:=zZ5 ((i:Int) - shX a) (16 - i);rw[show(i:Int) - shX a+((16 - i:Nat):Int)=16 - shX a by omega] at F
 obtain⟨J,-⟩:=yZ0 (fU a) ((i:Int) - shX a);have T:=qA1 hi D h;have m1:bv (a - 1)<bv a:=zY9 ω;have L:0<tnO (16 - shX a):=kH1 δ;have Y:0<tnO ((i:Int) - shX a):=kH1 δ;rw[zX0 D h,←T];left
 rw[V,kH7,zU4 ω] at J;unfold loD fwU shO shU;rw[zU4 ω,kQ_q,qI8] at *;generalize scF (bv a) ((i:Int) - shX a)=low at *;generalize tnO (16 - shX a)=O at *;generalize tnU (16 - shX a)=U at *;generalize tnO ((i:Int) - shX a)=o at *;generalize tnU ((i:Int) - shX a)=u at *;generalize kU=K at *;have I:low*10^(16 - i)*(2*(U*K))*o=2*bv a*O*o:=by
  have e2:low*10^(16 - i)*(2*(U*K))*o=2*(K*low)*(10^(16 - i)*U*o):=by ac_rfl
  have C:2*bv a*O*o=2*(bv a*o)*O:=by ac_rfl
  rw[e2,←F,C,J]
  ac_rfl
 have W:=Nat.eq_of_mul_eq_mul_right Y I;rw[W];exact kM4 ω L
def bsD (a:Nat):Nat:=if shL a≤fwL (shT a) (shJ a)∧(exD a (shJ a)=true∨¬ (fwL (shT a) (shJ a)+fwU (shJ a)≤shH a∧shA a=true))then loD a (shJ a)else loD a (shJ a)+1
theorem xY1 {a:Nat} (V:0<a) (h:a<9218868437227405312):shF a=bsD a*fwU (shJ a):=by
 have Y:=qA1 (qE3 a) V h;unfold shF bsD;by_cases J:exD a (shJ a)=true
 ·obtain⟨k1,F⟩:=yR6 (qE3 a) V h J;have D:shA a=false:=by
   rw[yQ9 (qE3 a) V h,F];refine kF1 ?_;have:=zZ6 ((shJ a:Int) - shX a)
   rintro(u|⟨u,-⟩) <;> omega
  have H:¬ (fwL (shT a) (shJ a)<shL a∨(shA a=true∧fwL (shT a) (shJ a)+fwU (shJ a)≤shH a)):=by
   intro u;rcases u with u|u
   ·omega
   ·rw[D] at u;exact absurd u.1 δ
  rw[kU5 H,kU6 ⟨k1,.inl J⟩,Y]
 ·by_cases c:shL a≤fwL (shT a) (shJ a)
  ·by_cases d:fwL (shT a) (shJ a)+fwU (shJ a)≤shH a∧shA a=true
   ·rw[kU6 (.inr ⟨d.2,d.1⟩),kU5 (by rintro⟨-,u|u⟩;exact J u;exact u d),Nat.add_mul,Y,Nat.one_mul]
   ·rw[kU5 (by rintro(u|u);omega;exact d ⟨u.2,u.1⟩),kU6 ⟨c,.inr d⟩,Y]
  ·rw[kU6 (.inl ω),kU5 (by rintro⟨u,-⟩;exact c u),Nat.add_mul,Y,Nat.one_mul]
end Go.Proofs.YtfkaogdmlcdceaaGreatDoor
