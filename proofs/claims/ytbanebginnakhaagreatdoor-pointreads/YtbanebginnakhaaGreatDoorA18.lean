/- Own work: contracts of the program's functions, part 18: DCX DCY DD8 DD9 DDA DDB DD3 DDC DDD DDE DDF DDG DDH DDI DRA DRB DRC DRD. -/
import Derived.Test.YtbanebginnakhaaGreatDoorA16
import Derived.Test.YtbanebginnakhaaGreatDoorA17
import Derived.Test.YtbanebginnakhaaGreatDoorA12
import Derived.Test.YtbanebginnakhaaGreatDoorA13
import Derived.Test.YtbanebginnakhaaGreatDoorA14
import Derived.Test.YtbanebginnakhaaGreatDoorA11

set_option maxHeartbeats 16000000
set_option maxRecDepth 200000
set_option linter.unusedVariables false
set_option linter.unusedSimpArgs false
namespace Go.Proofs.YtbanebginnakhaaGreatDoor
open Go.RowKit Go.Fl64
theorem yA0 {Q:Exit→Act→World→Prop} {o:Oper} {K:Act→World→Prop} {a:Act} {w:World} {s:Tmp} {g:Nat} {a0 a1 a2 a3 a4 a5:Value} (hop:o.op=.load 90 (.tmp s)) (hs:a.tmps[s]?=some (.pointer (some ⟨g,0,none⟩))) (hrun:(Instr.loadAt 90 (.pointer (some ⟨g,0,none⟩))).run Tryz.prog w=.ok (.agg #[a0,a1,a2,a3,a4,a5]) w) (h:K (a.put o.dst (.agg #[a0,a1,a2,a3,a4,a5])) w):o.wp Tryz.prog a w K Q :=
 qZ7 (w':=w) (by simp[execOp,hop,qZ0 hs,hrun]) h
theorem yK8 (f fp fu:Nat) (s1:Bool) (ao1:Option Addr) (n1 cp1:Nat) (e1:Int) (s2:Bool) (ao2:Option Addr) (n2 cp2:Nat) (e2:Int) (t1 t2 ta tp tq tl tu tv th tn tm:Bool×Nat×Int) (b1 b2 r1 r2:Bool) (N M LS MS:Nat) (w:World) (hLS:Hid (LS=if b1&&r1 then N else N+1)) (hMS:Hid (MS=if b2 && !r2 then M - 1 else M)) (h1:PN w (.agg #[.bool s1,.slice ao1 n1 cp1,.int .i64 e1]) t1) (h2:PN w (.agg #[.bool s2,.slice ao2 n2 cp2,.int .i64 e2]) t2) (hN:N<9223372036854775808) (hM:M<9223372036854775808) (hM0:Hid (0<M))
  (k1:Hid (∀ W,Bw w W→Calls Tryz.prog 103 #[.float .f64 f] W fun r w'=>OutA W ta r w'))
  (k2:Hid (∀ W,Calls Tryz.prog 198 #[.float .f64 f] W fun r w'=>r=.returned (.float .f64 fp)∧Bw W w'))
  (k3:Hid (∀ W,Bw w W→Calls Tryz.prog 103 #[.float .f64 fp] W fun r w'=>OutA W tp r w'))
  (k4:Hid (∀ W X Y,Bw w W→PN W X tp→PN W Y ta→Calls Tryz.prog 75 #[X,Y] W fun r w'=>OutA W tq r w'))
  (k5:Hid (∀ W X,Bw w W→PN W X tq→Calls Tryz.prog 125 #[X,.int .i64 (-1)] W fun r w'=>OutA W tl r w'))
  (k6:Hid (∀ W,Calls Tryz.prog 199 #[.float .f64 f] W fun r w'=>r=.returned (.float .f64 fu)∧Bw W w'))
  (k7:Hid (∀ W,Bw w W→Calls Tryz.prog 103 #[.float .f64 fu] W fun r w'=>OutA W tu r w'))
  (k8:Hid (∀ W X,Bw w W→PN W X tu→Calls Tryz.prog 125 #[X,.int .i64 (-1)] W fun r w'=>OutA W tv r w'))
  (k9:Hid (∀ W X Y,Bw w W→PN W X ta→PN W Y tv→Calls Tryz.prog 75 #[X,Y] W fun r w'=>OutA W th r w'))
  (kA:Hid (∀ W X,Bw w W→PN W (.agg #[.bool s1,.slice ao1 n1 cp1,.int .i64 e1]) t1→PN W (.agg #[.bool s2,.slice ao2 n2 cp2,.int .i64 e2]) t2→PN W X tl→Calls Tryz.prog 153 #[.agg #[.bool s1,.slice ao1 n1 cp1,.int .i64 e1,.bool s2,.slice ao2 n2 cp2,.int .i64 e2],X] W fun r w'=>zU5 W tn b1 r w'))
  (kB:Hid (∀ W X,Bw w W→PN W X tn→Calls Tryz.prog 156 #[X] W fun r w'=>r=.returned (.int .u64 (N:Nat))∧Bw W w'))
  (kC:Hid (b1=true→∀ W X,Bw w W→PN W X tl→Calls Tryz.prog 200 #[X,.float .f64 f] W fun r w'=>r=.returned (.bool r1)∧Bw W w'))
  (kD:Hid (∀ W X,Bw w W→PN W (.agg #[.bool s1,.slice ao1 n1 cp1,.int .i64 e1]) t1→PN W (.agg #[.bool s2,.slice ao2 n2 cp2,.int .i64 e2]) t2→PN W X th→Calls Tryz.prog 153 #[.agg #[.bool s1,.slice ao1 n1 cp1,.int .i64 e1,.bool s2,.slice ao2 n2 cp2,.int .i64 e2],X] W fun r w'=>zU5 W tm b2 r w'))
  (kE:Hid (∀ W X,Bw w W→PN W X tm→Calls Tryz.prog 156 #[X] W fun r w'=>r=.returned (.int .u64 (M:Nat))∧Bw W w'))
  (kF:Hid (b2=true→∀ W X,Bw w W→PN W X th→Calls Tryz.prog 200 #[X,.float .f64 f] W fun r w'=>r=.returned (.bool r2)∧Bw W w')) :
  Calls Tryz.prog 159 #[.float .f64 f,.agg #[.bool s1,.slice ao1 n1 cp1,.int .i64 e1,.bool s2,.slice ao2 n2 cp2,.int .i64 e2]] w fun r w'=>r=.returned (.tuple #[.int .u64 (LS:Nat),.int .u64 (MS:Nat)])∧Bw w w':=by
 obtain⟨W,hW⟩:∃ W,W=w.alloc (.cells #[.bool s1,.slice ao1 n1 cp1,.int .i64 e1,.bool s2,.slice ao2 n2 cp2,.int .i64 e2] 90):=⟨_,rfl⟩;have H0:Hid (W.heap[w.heap.size]?=some (.cells #[.bool s1,.slice ao1 n1 cp1,.int .i64 e1,.bool s2,.slice ao2 n2 cp2,.int .i64 e2] 90 (0,0))∧PN W (.agg #[.bool s1,.slice ao1 n1 cp1,.int .i64 e1]) t1∧PN W (.agg #[.bool s2,.slice ao2 n2 cp2,.int .i64 e2]) t2∧Bw w W):=(by
  have hb:Bw w W:=by rw[hW];exact(xL1 _ _).alloc (xL0 _) _
  exact⟨by rw[hW];exact xW8 _ _,h1.later hb,h2.later hb,hb⟩:_∧_)
 have kk:=k1.out W H0.out.2.2.2;clear k1 h1 h2
 go_enter Tryz.func159,Tryz.ntmps159
 go_upto_region 1 with fail;rw[←hW];clear hW
 go_wp2_with fail;refine kk.mono ?_;rintro r w1 ⟨s3,ao3,n3,cp3,e3,rfl,hA,hb1⟩;clear kk;obtain⟨W1,hW1⟩:∃ W1,W1=w1.alloc (.cells #[.bool s3,.slice ao3 n3 cp3,.int .i64 e3] 84):=⟨_,rfl⟩;have hbV:Bw w1 W1:=by rw[hW1];exact(xL1 _ _).alloc (xL0 _) _
 have n6:W1.heap[w1.heap.size]?=some (.cells #[.bool s3,.slice ao3 n3 cp3,.int .i64 e3] 84 (0,0)):=by rw[hW1];exact xW8 _ _
 have hb01:Bw W W1:=hb1.trans (hbV.mono hb1.size)
 go_upto_region 2 with fail;rw[←hW1];clear hW1;have hA':=hA.later hbV;clear hbV hA;generalize w1.heap.size=gqA at *;have H1:Hid ((W1.heap[w.heap.size]?=some (.cells #[.bool s1,.slice ao1 n1 cp1,.int .i64 e1,.bool s2,.slice ao2 n2 cp2,.int .i64 e2] 90 (0,0))∧PN W1 (.agg #[.bool s1,.slice ao1 n1 cp1,.int .i64 e1]) t1∧PN W1 (.agg #[.bool s2,.slice ao2 n2 cp2,.int .i64 e2]) t2∧Bw w W1)∧PBx W1 gqA s3 ao3 n3 cp3 e3 ta):=⟨⟨qQ H0.out.1 hb01 (qQ6 H0.out.1),H0.out.2.1.later hb01,H0.out.2.2.1.later hb01,H0.out.2.2.2.trans (hb01.mono H0.out.2.2.2.size)⟩,⟨n6,hA'⟩⟩;clear H0 n6 hA' hb1 hb01;obtain⟨mS,m1⟩:=H1.out;have hBW:=mS.2.2.2;refine qM qX7 [0,1,2,3,4,5] [6] [7] [16,17,18,19,20,21] [7] [[],[0],[1],[],[2,3],[4]] [5] 84 #[.bool false,.slice none 0 0,.int .i64 0] W1 _ [isV (.float .f64 f),isV (.float .f64 fp),isP (tp),isV (.agg #[.bool s3,.slice ao3 n3 cp3,.int .i64 e3]),isP (tq),isP (tl)] (by kernel_rfl) ⟨qQ2 _,qQ2 _,qX8 _,qQ2 _,qX8 _,qX8 _,trivial⟩ ⟨fun _ _ _ _ _ h=>h,fun _ _ _ _ _ h=>h,qK2 _,fun _ _ _ _ _ h=>h,qK2 _,qK2 _,trivial⟩ (by show ∀ s ∈ [16,17,18,19,20,21] ++ [7],s<65;decide) ?_ ?_ ?_ qI9 Tryz.info84 ?_ ?_
 ·intro k' hk U u h;obtain rfl:k'=0:=Nat.lt_one_iff.1 hk;obtain⟨ao,cap,rfl,-⟩:=(show PN U u (tl)from h);exact⟨_,rfl,rfl,one3 rfl rfl⟩
 ·intro j hj o ho act U hb hoth hdep;have hj':j<6:=hj;have hbU:Bw w U:=hBW.trans (hb.mono hBW.size);have t0':act.tmps[(0:Nat)]?=some (Value.float .f64 f):=(hoth 0 (by decide)).trans rfl
  have t6':act.tmps[(6:Nat)]?=some (Value.pointer (some ⟨gqA,0,none⟩)):=(hoth 6 (by decide)).trans rfl
  have d6:=(qJ7 (qQ m1.1 hb (qQ6 m1.1))).1;rcases(by omega:j=0∨j=1∨j=2∨j=3∨j=4∨j=5)with rfl|rfl|rfl|rfl|rfl|rfl
  ·obtain rfl:=xL2 ho;exact .inl ⟨rfl,qZ5 rfl t0' ⟨_,rfl,rfl,xL1 _ _⟩⟩
  ·obtain rfl:=xL2 ho;have y0:act.tmps[(16:Nat)]?=_:=dV (hdep 0 (by simp[dL])) rfl
   refine .inl ⟨rfl,qZ1 rfl (qX2 Tryz.func198 (by kernel_rfl) (by kernel_rfl)) (qB8 y0) ?_⟩
   refine(k2.out U).mono ?_
   rintro r w' ⟨rfl,hb'⟩;exact⟨_,rfl,_,rfl,rfl,hb'⟩
  ·obtain rfl:=xL2 ho;have y1:act.tmps[(17:Nat)]?=_:=dV (hdep 1 (by simp[dL])) rfl
   refine .inl ⟨rfl,qZ1 rfl (qX2 Tryz.func103 (by kernel_rfl) (by kernel_rfl)) (qB8 y1) ?_⟩
   refine(k3.out U hbU).mono ?_
   rintro r w' ⟨_,_,_,_,_,rfl,hA,hb'⟩;exact⟨_,rfl,_,rfl,hA,hb'⟩
  ·obtain rfl:=xL2 ho;exact .inl ⟨rfl,qJ1 (f:=0) rfl t6' d6.1 d6.2.1 d6.2.2 ⟨_,rfl,rfl,xL1 _ _⟩⟩
  ·obtain rfl:=xL2 ho;obtain⟨u2,y2a,v2⟩:=hdep 2 (by simp[dL])
   have y2:act.tmps[(18:Nat)]?=_:=y2a;have y3:act.tmps[(19:Nat)]?=_:=dV (hdep 3 (by simp[dL])) rfl
   refine .inl ⟨rfl,qZ1 rfl (qX2 Tryz.func75 (by kernel_rfl) (by kernel_rfl)) (map2 y2 y3) ?_⟩
   refine(k4.out U _ _ hbU v2 (m1.2.later hb)).mono ?_
   rintro r w' ⟨_,_,_,_,_,rfl,hA,hb'⟩;exact⟨_,rfl,_,rfl,hA,hb'⟩
  ·obtain rfl:=xL2 ho;obtain⟨u4,y4a,v4⟩:=hdep 4 (by simp[dL])
   have y4:act.tmps[(20:Nat)]?=_:=y4a;refine .inl ⟨rfl,qZ1 rfl (qX2 Tryz.func125 (by kernel_rfl) (by kernel_rfl)) (yG7 y4) ?_⟩
   refine(k5.out U _ hbU v4).mono ?_
   rintro r w' ⟨_,_,_,_,_,rfl,hA,hb'⟩;exact⟨_,rfl,_,rfl,hA,hb'⟩
 ·intro k' hk;obtain rfl:k'=0:=Nat.lt_one_iff.1 hk;exact⟨_,rfl,rfl⟩
 ·intro k' hk;obtain rfl:k'=0:=Nat.lt_one_iff.1 hk;exact⟨_,rfl,rfl⟩
 ·intro u g W3 hb3 hu hg hap;obtain⟨g0,cs0,q0,z0⟩:=hg 0 (by decide)
  have q7:PN W3 (u 5) (tl):=hu 5 (by decide)
  have q0':u 5=.agg cs0:=q0;rw[q0'] at q7;obtain⟨s4,ao4,n4,cp4,e4,h5⟩:=q7.shape1;obtain rfl:=Value.agg.inj h5;obtain⟨gqL,hgS⟩:∃ x,x=g 0:=⟨_,rfl⟩;rw[←hgS] at z0 g0;have H3:Hid ((W3.heap[w.heap.size]?=some (.cells #[.bool s1,.slice ao1 n1 cp1,.int .i64 e1,.bool s2,.slice ao2 n2 cp2,.int .i64 e2] 90 (0,0))∧PN W3 (.agg #[.bool s1,.slice ao1 n1 cp1,.int .i64 e1]) t1∧PN W3 (.agg #[.bool s2,.slice ao2 n2 cp2,.int .i64 e2]) t2∧Bw w W3)∧PBx W3 gqA s3 ao3 n3 cp3 e3 ta∧PBx W3 gqL s4 ao4 n4 cp4 e4 tl):=⟨⟨qQ mS.1 hb3 (qQ6 mS.1),mS.2.1.later hb3,mS.2.2.1.later hb3,mS.2.2.2.trans (hb3.mono mS.2.2.2.size)⟩,m1.later hb3,⟨z0,q7⟩⟩;clear hu hg hap hb3 m1 mS hBW H1 q0 q0' z0 g0 q7 h5 k2 k3 k4 k5;simp only[putL,show List.range 6 = [0,1,2,3,4,5] from rfl,show List.range 1 = [0] from rfl,List.length_cons,List.length_nil,List.getD_cons_zero,List.getD_cons_succ,List.map_cons,List.map_nil,List.cons_append,List.nil_append,List.foldl_cons,List.foldl_nil,Nat.reduceLT,Nat.reduceMod,Nat.reduceDiv,Nat.reduceMul,Nat.reduceAdd,Nat.reduceEqDiff,reduceIte,Nat.one_ne_zero,Act.put,List.setIfInBounds_toArray,List.set_cons_zero,List.set_cons_succ];rw[←hgS];clear hgS
  go_upto_region 3 with fail;obtain⟨mS,m1,m2⟩:=H3.out;have hBW:=mS.2.2.2;refine qM qX7 [0,1,2,3,4,5] [6] [7] [22,23,24,25,26,27] [8] [[],[],[1],[2],[3],[0,4]] [5] 84 #[.bool false,.slice none 0 0,.int .i64 0] W3 _ [isV (.agg #[.bool s3,.slice ao3 n3 cp3,.int .i64 e3]),isV (.float .f64 f),isV (.float .f64 fu),isP (tu),isP (tv),isP (th)] (by kernel_rfl) ⟨qQ2 _,qQ2 _,qQ2 _,qX8 _,qX8 _,qX8 _,trivial⟩ ⟨fun _ _ _ _ _ h=>h,fun _ _ _ _ _ h=>h,fun _ _ _ _ _ h=>h,qK2 _,qK2 _,qK2 _,trivial⟩ (by show ∀ s ∈ [22,23,24,25,26,27] ++ [8],s<65;decide) ?_ ?_ ?_ qI9 Tryz.info84 ?_ ?_
  ·intro k' hk U u h;obtain rfl:k'=0:=Nat.lt_one_iff.1 hk;obtain⟨ao,cap,rfl,-⟩:=(show PN U u (th)from h);exact⟨_,rfl,rfl,one3 rfl rfl⟩
  ·intro j hj o ho act U hb hoth hdep;have hj':j<6:=hj;have hbU:Bw w U:=hBW.trans (hb.mono hBW.size);have t0':act.tmps[(0:Nat)]?=some (Value.float .f64 f):=(hoth 0 (by decide)).trans rfl
   have t6':act.tmps[(6:Nat)]?=some (Value.pointer (some ⟨gqA,0,none⟩)):=(hoth 6 (by decide)).trans rfl
   have d6:=(qJ7 (qQ m1.1 hb (qQ6 m1.1))).1;rcases(by omega:j=0∨j=1∨j=2∨j=3∨j=4∨j=5)with rfl|rfl|rfl|rfl|rfl|rfl
   ·obtain rfl:=xL2 ho;exact .inl ⟨rfl,qJ1 (f:=0) rfl t6' d6.1 d6.2.1 d6.2.2 ⟨_,rfl,rfl,xL1 _ _⟩⟩
   ·obtain rfl:=xL2 ho;exact .inl ⟨rfl,qZ5 rfl t0' ⟨_,rfl,rfl,xL1 _ _⟩⟩
   ·obtain rfl:=xL2 ho;have y1:act.tmps[(23:Nat)]?=_:=dV (hdep 1 (by simp[dL])) rfl
    refine .inl ⟨rfl,qZ1 rfl (qX2 Tryz.func199 (by kernel_rfl) (by kernel_rfl)) (qB8 y1) ?_⟩
    refine(k6.out U).mono ?_
    rintro r w' ⟨rfl,hb'⟩;exact⟨_,rfl,_,rfl,rfl,hb'⟩
   ·obtain rfl:=xL2 ho;have y2:act.tmps[(24:Nat)]?=_:=dV (hdep 2 (by simp[dL])) rfl
    refine .inl ⟨rfl,qZ1 rfl (qX2 Tryz.func103 (by kernel_rfl) (by kernel_rfl)) (qB8 y2) ?_⟩
    refine(k7.out U hbU).mono ?_
    rintro r w' ⟨_,_,_,_,_,rfl,hA,hb'⟩;exact⟨_,rfl,_,rfl,hA,hb'⟩
   ·obtain rfl:=xL2 ho;obtain⟨u3,y3a,v3⟩:=hdep 3 (by simp[dL])
    have y3:act.tmps[(25:Nat)]?=_:=y3a;refine .inl ⟨rfl,qZ1 rfl (qX2 Tryz.func125 (by kernel_rfl) (by kernel_rfl)) (yG7 y3) ?_⟩
    refine(k8.out U _ hbU v3).mono ?_
    rintro r w' ⟨_,_,_,_,_,rfl,hA,hb'⟩;exact⟨_,rfl,_,rfl,hA,hb'⟩
   ·obtain rfl:=xL2 ho;have y0:act.tmps[(22:Nat)]?=_:=dV (hdep 0 (by simp[dL])) rfl
    obtain⟨u4,y4a,v4⟩:=hdep 4 (by simp[dL])
    have y4:act.tmps[(26:Nat)]?=_:=y4a;refine .inl ⟨rfl,qZ1 rfl (qX2 Tryz.func75 (by kernel_rfl) (by kernel_rfl)) (map2 y0 y4) ?_⟩
    refine(k9.out U _ _ hbU (m1.2.later hb) v4).mono ?_
    rintro r w' ⟨_,_,_,_,_,rfl,hA,hb'⟩;exact⟨_,rfl,_,rfl,hA,hb'⟩
  ·intro k' hk;obtain rfl:k'=0:=Nat.lt_one_iff.1 hk;exact⟨_,rfl,rfl⟩
  ·intro k' hk;obtain rfl:k'=0:=Nat.lt_one_iff.1 hk;exact⟨_,rfl,rfl⟩
  ·intro u g W4 hb3 hu hg hap;obtain⟨g0,cs0,q0,z0⟩:=hg 0 (by decide)
   have q7:PN W4 (u 5) (th):=hu 5 (by decide)
   have q0':u 5=.agg cs0:=q0;rw[q0'] at q7;obtain⟨s5,ao5,n5,cp5,e5,h5⟩:=q7.shape1;obtain rfl:=Value.agg.inj h5;obtain⟨gqH,hgS⟩:∃ x,x=g 0:=⟨_,rfl⟩;rw[←hgS] at z0 g0;have H4:Hid ((W4.heap[w.heap.size]?=some (.cells #[.bool s1,.slice ao1 n1 cp1,.int .i64 e1,.bool s2,.slice ao2 n2 cp2,.int .i64 e2] 90 (0,0))∧PN W4 (.agg #[.bool s1,.slice ao1 n1 cp1,.int .i64 e1]) t1∧PN W4 (.agg #[.bool s2,.slice ao2 n2 cp2,.int .i64 e2]) t2∧Bw w W4)∧PBx W4 gqL s4 ao4 n4 cp4 e4 tl∧PBx W4 gqH s5 ao5 n5 cp5 e5 th):=⟨⟨qQ mS.1 hb3 (qQ6 mS.1),mS.2.1.later hb3,mS.2.2.1.later hb3,mS.2.2.2.trans (hb3.mono mS.2.2.2.size)⟩,m2.later hb3,⟨z0,q7⟩⟩;clear hu hg hap hb3 m1 m2 mS hBW H3 q0 q0' z0 g0 q7 h5 k6 k7 k8 k9;simp only[putL,show List.range 6 = [0,1,2,3,4,5] from rfl,show List.range 1 = [0] from rfl,List.length_cons,List.length_nil,List.getD_cons_zero,List.getD_cons_succ,List.map_cons,List.map_nil,List.cons_append,List.nil_append,List.foldl_cons,List.foldl_nil,Nat.reduceLT,Nat.reduceMod,Nat.reduceDiv,Nat.reduceMul,Nat.reduceAdd,Nat.reduceEqDiff,reduceIte,Nat.one_ne_zero,Act.put,List.setIfInBounds_toArray,List.set_cons_zero,List.set_cons_succ];rw[←hgS];clear hgS;obtain⟨c0,c1,c2,c3,c4,c5⟩:=(qV9 H4.out.1.1).1;obtain⟨d0,d1,d2⟩:=(qJ7 H4.out.2.1.1).1;have kk:=kA.out W4 _ H4.out.1.2.2.2 H4.out.1.2.1 H4.out.1.2.2.1 H4.out.2.1.2;clear kA
   go_wp2_with fail;refine kk.mono ?_;rintro r w5 ⟨s6,ao6,n6,cp6,e6,rfl,hA,hb5⟩;clear kk c0 c1 c2 c3 c4 c5 d0 d1 d2;obtain⟨W5,hW5⟩:∃ W5,W5=w5.alloc (.cells #[.bool s6,.slice ao6 n6 cp6,.int .i64 e6] 84):=⟨_,rfl⟩;have hbV:Bw w5 W5:=by rw[hW5];exact(xL1 _ _).alloc (xL0 _) _
   have n6:W5.heap[w5.heap.size]?=some (.cells #[.bool s6,.slice ao6 n6 cp6,.int .i64 e6] 84 (0,0)):=by rw[hW5];exact xW8 _ _
   have hb45:Bw W4 W5:=hb5.trans (hbV.mono hb5.size)
   go_upto_region 5 with fail;rw[←hW5];clear hW5;have hA':=hA.later hbV;clear hbV hA hb5;generalize w5.heap.size=gqN at *;have H5:Hid ((W5.heap[w.heap.size]?=some (.cells #[.bool s1,.slice ao1 n1 cp1,.int .i64 e1,.bool s2,.slice ao2 n2 cp2,.int .i64 e2] 90 (0,0))∧PN W5 (.agg #[.bool s1,.slice ao1 n1 cp1,.int .i64 e1]) t1∧PN W5 (.agg #[.bool s2,.slice ao2 n2 cp2,.int .i64 e2]) t2∧Bw w W5)∧PBx W5 gqL s4 ao4 n4 cp4 e4 tl∧PBx W5 gqH s5 ao5 n5 cp5 e5 th):=⟨⟨qQ H4.out.1.1 hb45 (qQ6 H4.out.1.1),H4.out.1.2.1.later hb45,H4.out.1.2.2.1.later hb45,H4.out.1.2.2.2.trans (hb45.mono H4.out.1.2.2.2.size)⟩,H4.out.2.1.later hb45,H4.out.2.2.later hb45⟩;obtain⟨⟨d0,d1,d2⟩,-⟩:=qQ1 n6;have kk:=kB.out W5 _ H5.out.1.2.2.2 hA';clear kB H4 hb45 n6 hA'
   go_wp2_with fail;refine kk.mono ?_;rintro r w6 ⟨rfl,hb6⟩;have H6:Hid ((w6.heap[w.heap.size]?=some (.cells #[.bool s1,.slice ao1 n1 cp1,.int .i64 e1,.bool s2,.slice ao2 n2 cp2,.int .i64 e2] 90 (0,0))∧PN w6 (.agg #[.bool s1,.slice ao1 n1 cp1,.int .i64 e1]) t1∧PN w6 (.agg #[.bool s2,.slice ao2 n2 cp2,.int .i64 e2]) t2∧Bw w w6)∧PBx w6 gqL s4 ao4 n4 cp4 e4 tl∧PBx w6 gqH s5 ao5 n5 cp5 e5 th):=⟨⟨qQ H5.out.1.1 hb6 (qQ6 H5.out.1.1),H5.out.1.2.1.later hb6,H5.out.1.2.2.1.later hb6,H5.out.1.2.2.2.trans (hb6.mono H5.out.1.2.2.2.size)⟩,H5.out.2.1.later hb6,H5.out.2.2.later hb6⟩;clear kk d0 d1 d2 hb6 H5;have hwN:IntKind.u64.wrap ((N:Int)+1)=(N:Int)+1:=by rw[xW7];omega
   go_upto_region 6 with fail
   go_cut [43] from 34 to 42 (fun v wx=>v=.bool (!(b1&&r1))∧Hid ((wx.heap[w.heap.size]?=some (.cells #[.bool s1,.slice ao1 n1 cp1,.int .i64 e1,.bool s2,.slice ao2 n2 cp2,.int .i64 e2] 90 (0,0))∧PN wx (.agg #[.bool s1,.slice ao1 n1 cp1,.int .i64 e1]) t1∧PN wx (.agg #[.bool s2,.slice ao2 n2 cp2,.int .i64 e2]) t2∧Bw w wx)∧PBx wx gqL s4 ao4 n4 cp4 e4 tl∧PBx wx gqH s5 ao5 n5 cp5 e5 th))
   case first =>
    cases b1
    ·clear kC
     go_wp2
     go_meet
     exact⟨rfl,H6⟩
    ·have kk:=kC.out rfl w6 _ H6.out.1.2.2.2 H6.out.2.1.2;obtain⟨⟨d0,d1,d2⟩,-⟩:=qQ1 H6.out.2.1.1;clear kC
     go_wp2_with fail;refine kk.mono ?_;rintro r w7 ⟨rfl,hb7⟩;have H7:Hid ((w7.heap[w.heap.size]?=some (.cells #[.bool s1,.slice ao1 n1 cp1,.int .i64 e1,.bool s2,.slice ao2 n2 cp2,.int .i64 e2] 90 (0,0))∧PN w7 (.agg #[.bool s1,.slice ao1 n1 cp1,.int .i64 e1]) t1∧PN w7 (.agg #[.bool s2,.slice ao2 n2 cp2,.int .i64 e2]) t2∧Bw w w7)∧PBx w7 gqL s4 ao4 n4 cp4 e4 tl∧PBx w7 gqH s5 ao5 n5 cp5 e5 th):=⟨⟨qQ H6.out.1.1 hb7 (qQ6 H6.out.1.1),H6.out.1.2.1.later hb7,H6.out.1.2.2.1.later hb7,H6.out.1.2.2.2.trans (hb7.mono H6.out.1.2.2.2.size)⟩,H6.out.2.1.later hb7,H6.out.2.2.later hb7⟩;clear kk d0 d1 d2 hb7 H6
     go_wp2
     go_meet
     exact⟨rfl,H7⟩
   case rest =>
   obtain⟨rfl,H8⟩:=hcut;clear H6 kC
   go_upto_if 43 with fail
   go_cut [11] from 34 to 45 (fun v wx=>v=.int .u64 (LS:Nat)∧Hid ((wx.heap[w.heap.size]?=some (.cells #[.bool s1,.slice ao1 n1 cp1,.int .i64 e1,.bool s2,.slice ao2 n2 cp2,.int .i64 e2] 90 (0,0))∧PN wx (.agg #[.bool s1,.slice ao1 n1 cp1,.int .i64 e1]) t1∧PN wx (.agg #[.bool s2,.slice ao2 n2 cp2,.int .i64 e2]) t2∧Bw w wx)∧PBx wx gqL s4 ao4 n4 cp4 e4 tl∧PBx wx gqH s5 ao5 n5 cp5 e5 th))
   case first =>
    cases hc:b1&&r1
    ·go_wp2
     go_meet
     exact⟨by rw[hLS.out,hc];simp,H8⟩
    ·go_wp2
     go_meet
     exact⟨by rw[hLS.out,hc];simp,H8⟩
   case rest =>
   obtain⟨rfl,H7⟩:=hcut;clear H8 hwN;obtain⟨c0,c1,c2,c3,c4,c5⟩:=(qV9 H7.out.1.1).1;obtain⟨d0,d1,d2⟩:=(qJ7 H7.out.2.2.1).1;have kk:=kD.out _ _ H7.out.1.2.2.2 H7.out.1.2.1 H7.out.1.2.2.1 H7.out.2.2.2;clear kD
   go_wp2_with fail;refine kk.mono ?_;rintro r w8 ⟨s6,ao6,n6,cp6,e6,rfl,hA,hb8⟩;clear kk c0 c1 c2 c3 c4 c5 d0 d1 d2;obtain⟨W8,hW8⟩:∃ W8,W8=w8.alloc (.cells #[.bool s6,.slice ao6 n6 cp6,.int .i64 e6] 84):=⟨_,rfl⟩;have hbV:Bw w8 W8:=by rw[hW8];exact(xL1 _ _).alloc (xL0 _) _
   have n6:W8.heap[w8.heap.size]?=some (.cells #[.bool s6,.slice ao6 n6 cp6,.int .i64 e6] 84 (0,0)):=by rw[hW8];exact xW8 _ _
   have hb78:=hb8.trans (hbV.mono hb8.size)
   go_upto_region 9 with fail;rw[←hW8];clear hW8;have hA':=hA.later hbV;clear hbV hA hb8;generalize w8.heap.size=gqM at *;have H8:Hid ((W8.heap[w.heap.size]?=some (.cells #[.bool s1,.slice ao1 n1 cp1,.int .i64 e1,.bool s2,.slice ao2 n2 cp2,.int .i64 e2] 90 (0,0))∧PN W8 (.agg #[.bool s1,.slice ao1 n1 cp1,.int .i64 e1]) t1∧PN W8 (.agg #[.bool s2,.slice ao2 n2 cp2,.int .i64 e2]) t2∧Bw w W8)∧PBx W8 gqH s5 ao5 n5 cp5 e5 th):=⟨⟨qQ H7.out.1.1 hb78 (qQ6 H7.out.1.1),H7.out.1.2.1.later hb78,H7.out.1.2.2.1.later hb78,H7.out.1.2.2.2.trans (hb78.mono H7.out.1.2.2.2.size)⟩,H7.out.2.2.later hb78⟩;obtain⟨⟨d0,d1,d2⟩,-⟩:=qQ1 n6;have kk:=kE.out W8 _ H8.out.1.2.2.2 hA';clear kE H7 hb78 n6 hA'
   go_wp2_with fail;refine kk.mono ?_;rintro r w9 ⟨rfl,hb9⟩;have H9:Hid ((w9.heap[w.heap.size]?=some (.cells #[.bool s1,.slice ao1 n1 cp1,.int .i64 e1,.bool s2,.slice ao2 n2 cp2,.int .i64 e2] 90 (0,0))∧PN w9 (.agg #[.bool s1,.slice ao1 n1 cp1,.int .i64 e1]) t1∧PN w9 (.agg #[.bool s2,.slice ao2 n2 cp2,.int .i64 e2]) t2∧Bw w w9)∧PBx w9 gqH s5 ao5 n5 cp5 e5 th):=⟨⟨qQ H8.out.1.1 hb9 (qQ6 H8.out.1.1),H8.out.1.2.1.later hb9,H8.out.1.2.2.1.later hb9,H8.out.1.2.2.2.trans (hb9.mono H8.out.1.2.2.2.size)⟩,H8.out.2.later hb9⟩;clear kk d0 d1 d2 hb9 H8;have hwM:IntKind.u64.wrap ((M:Int) - 1)=((M - 1:Nat):Int):=by have:=hM0.out;rw[xW7];omega
   go_upto_region 10 with fail;cases b2
   ·clear kF
    go_wp2;refine xW9 (xE3 rfl _ _ _) rfl ?_;exact⟨by rw[hMS.out];simp,H9.out.1.2.2.2⟩
   ·have kk:=kF.out rfl w9 _ H9.out.1.2.2.2 H9.out.2.2;obtain⟨⟨d0,d1,d2⟩,-⟩:=qQ1 H9.out.2.1;clear kF
    go_wp2_with fail;refine kk.mono ?_;rintro r wA ⟨rfl,hbA⟩;have HA:Hid (Bw w wA):=H9.out.1.2.2.2.trans (hbA.mono H9.out.1.2.2.2.size);clear kk d0 d1 d2 hbA H9;cases r2
    ·go_wp2;refine xW9 (xE3 rfl _ _ _) rfl ?_;exact⟨by rw[hMS.out];simp,HA.out⟩
    ·go_wp2;refine xW9 (xE3 rfl _ _ _) rfl ?_;exact⟨by rw[hMS.out];simp,HA.out⟩
def fwU (j:Nat):Nat:=10^(16 - j)
def fwL (t j:Nat):Nat:=t / 2 / fwU j*fwU j
theorem zK5 (j:Nat):0<fwU j:=Nat.pow_pos (by decide)
theorem zI2 (j:Nat):fwU j≤10000000000000000:=xW (xL6 (by decide) (Nat.sub_le 16 j)) (by decide)
theorem yF2 {j:Nat} (h:1<fwU j):fwU j / 10=fwU (j+1)∧j<16:=by
 have hj:j<16:=by
  rcases Nat.lt_or_ge j 16 with h1|h1
  ·exact h1
  ·have:fwU j=1:=by unfold fwU;rw[Nat.sub_eq_zero_of_le h1]
   omega
 refine⟨?_,hj⟩
 unfold fwU;rw[show 16 - j=(16 - (j+1))+1 by omega,xC5,Nat.mul_div_cancel _ (by decide)]
theorem xB9 (t j:Nat):fwL t j≤t / 2:=xE9 _ _
theorem zM5 (a b:Nat):Int.tdiv (a:Int) (b:Int)=((a / b:Nat):Int):=by simp
theorem yJ1 (f:Nat) (s1:Bool) (ao1:Option Addr) (n1 cp1:Nat) (e1:Int) (s2:Bool) (ao2:Option Addr) (n2 cp2:Nat) (e2:Int) (s3:Bool) (ao3:Option Addr) (n3 cp3:Nat) (e3:Int) (t1 t2 ta td tn tp:Bool×Nat×Int) (is ab:Bool) (LS MS TW J F:Nat) (w:World) (h1:PN w (.agg #[.bool s1,.slice ao1 n1 cp1,.int .i64 e1]) t1) (h2:PN w (.agg #[.bool s2,.slice ao2 n2 cp2,.int .i64 e2]) t2) (h3:PN w (.agg #[.bool s3,.slice ao3 n3 cp3,.int .i64 e3]) ta) (hLS:LS<4611686018427387904) (hMS:MS<4611686018427387904) (hTW:TW<4611686018427387904)
  (hJ1:Hid (∀ j,j<J→1<fwU j∧fwL TW j<LS∧MS<fwL TW j+fwU j)) (hJ2:Hid (¬ (1<fwU J∧fwL TW J<LS∧MS<fwL TW J+fwU J)))
  (hab:Hid (ab=(decide (fwU J<TW - 2*fwL TW J)||(decide (TW - 2*fwL TW J=fwU J)&&(!is||decide (fwL TW J / fwU J % 2=1))))))
  (hF:Hid (F=if fwL TW J<LS∨(ab=true∧fwL TW J+fwU J≤MS)then fwL TW J+fwU J else fwL TW J))
  (k1:Hid (∀ W,Bw w W→PN W (.agg #[.bool s1,.slice ao1 n1 cp1,.int .i64 e1]) t1→PN W (.agg #[.bool s2,.slice ao2 n2 cp2,.int .i64 e2]) t2→Calls Tryz.prog 159 #[.float .f64 f,.agg #[.bool s1,.slice ao1 n1 cp1,.int .i64 e1,.bool s2,.slice ao2 n2 cp2,.int .i64 e2]] W fun r w'=>r=.returned (.tuple #[.int .u64 (LS:Nat),.int .u64 (MS:Nat)])∧Bw W w'))
  (k2:Hid (∀ W X,Bw w W→PN W X ta→Calls Tryz.prog 125 #[X,.int .i64 1] W fun r w'=>OutA W td r w'))
  (k3:Hid (∀ W X,Bw w W→PN W (.agg #[.bool s1,.slice ao1 n1 cp1,.int .i64 e1]) t1→PN W (.agg #[.bool s2,.slice ao2 n2 cp2,.int .i64 e2]) t2→PN W X td→Calls Tryz.prog 153 #[.agg #[.bool s1,.slice ao1 n1 cp1,.int .i64 e1,.bool s2,.slice ao2 n2 cp2,.int .i64 e2],X] W fun r w'=>zU5 W tn is r w'))
  (k4:Hid (∀ W X,Bw w W→PN W X tn→Calls Tryz.prog 156 #[X] W fun r w'=>r=.returned (.int .u64 (TW:Nat))∧Bw W w'))
  (k5:Hid (∀ W,Bw w W→Calls Tryz.prog 76 #[.int .i64 10,.int .i64 16] W fun r w'=>OutA W tp r w'))
  (k6:Hid (∀ W X,Bw w W→PN W X tp→Calls Tryz.prog 156 #[X] W fun r w'=>r=.returned (.int .u64 (fwU 0:Nat))∧Bw W w')) :
  Calls Tryz.prog 106 #[.float .f64 f,.agg #[.bool s3,.slice ao3 n3 cp3,.int .i64 e3],.agg #[.bool s1,.slice ao1 n1 cp1,.int .i64 e1,.bool s2,.slice ao2 n2 cp2,.int .i64 e2]] w fun r w'=>r=.returned (.int .u64 (F:Nat))∧Bw w w':=by
 obtain⟨W,hW⟩:∃ W,W=(w.alloc (.cells #[.bool s3,.slice ao3 n3 cp3,.int .i64 e3] 84)).alloc (.cells #[.bool s1,.slice ao1 n1 cp1,.int .i64 e1,.bool s2,.slice ao2 n2 cp2,.int .i64 e2] 90):=⟨_,rfl⟩;obtain⟨z1,z2,z3,z4⟩:=qG9 _ _ hW;have H0:Hid (W.heap[w.heap.size+1]?=some (.cells #[.bool s1,.slice ao1 n1 cp1,.int .i64 e1,.bool s2,.slice ao2 n2 cp2,.int .i64 e2] 90 (0,0))∧PN W (.agg #[.bool s1,.slice ao1 n1 cp1,.int .i64 e1]) t1∧PN W (.agg #[.bool s2,.slice ao2 n2 cp2,.int .i64 e2]) t2∧Bw w W∧PBx W w.heap.size s3 ao3 n3 cp3 e3 ta):=⟨z2,h1.later z4,h2.later z4,z4,⟨z1,h3.later z4⟩⟩;have kk:=k1.out W z4 (h1.later z4) (h2.later z4);obtain⟨c0,c1,c2,c3,c4,c5⟩:=(qV9 z2).1;clear k1 h1 h2 h3 z1 z2 z3 z4
 go_enter Tryz.func106,Tryz.ntmps106
 go_upto_region 1 with fail;rw[←hW];clear hW
 go_wp2_with fail;refine kk.mono ?_;rintro r w1 ⟨rfl,hb1⟩;have H1:Hid (w1.heap[w.heap.size+1]?=some (.cells #[.bool s1,.slice ao1 n1 cp1,.int .i64 e1,.bool s2,.slice ao2 n2 cp2,.int .i64 e2] 90 (0,0))∧PN w1 (.agg #[.bool s1,.slice ao1 n1 cp1,.int .i64 e1]) t1∧PN w1 (.agg #[.bool s2,.slice ao2 n2 cp2,.int .i64 e2]) t2∧Bw w w1∧PBx w1 w.heap.size s3 ao3 n3 cp3 e3 ta):=⟨qQ H0.out.1 hb1 (qQ6 H0.out.1),H0.out.2.1.later hb1,H0.out.2.2.1.later hb1,H0.out.2.2.2.1.trans (hb1.mono H0.out.2.2.2.1.size),H0.out.2.2.2.2.later hb1⟩;clear kk hb1 H0 c0 c1 c2 c3 c4 c5
 go_upto_region 2 with fail;obtain⟨mS,p1,p2,hBW,m1⟩:=H1.out;refine qM qX7 [0,1,2,3,4,5,6,9] [7] [8] [23,24,25,26,22,27,28,10] [9] [[],[],[1],[0,2],[3],[4],[4],[6]] [5] 84 #[.bool false,.slice none 0 0,.int .i64 0] w1 _ [isV (.agg #[.bool s1,.slice ao1 n1 cp1,.int .i64 e1,.bool s2,.slice ao2 n2 cp2,.int .i64 e2]),isV (.agg #[.bool s3,.slice ao3 n3 cp3,.int .i64 e3]),isP (td),isW2 tn is,isW2 tn is,isP (tn),isV (.bool is),isV (.bool is)] (by kernel_rfl) ⟨qQ2 _,qQ2 _,qX8 _,qB3 _ _,qB3 _ _,qX8 _,qQ2 _,qQ2 _,trivial⟩ ⟨fun _ _ _ _ _ h=>h,fun _ _ _ _ _ h=>h,qK2 _,qP7 _ _,qP7 _ _,qK2 _,fun _ _ _ _ _ h=>h,fun _ _ _ _ _ h=>h,trivial⟩ (by show ∀ s ∈ [23,24,25,26,22,27,28,10] ++ [9],s<101;decide) ?_ ?_ ?_ qI9 Tryz.info84 ?_ ?_
 ·intro k' hk U u h;obtain rfl:k'=0:=Nat.lt_one_iff.1 hk;obtain⟨ao,cap,rfl,-⟩:=(show PN U u (tn)from h);exact⟨_,rfl,rfl,one3 rfl rfl⟩
 ·intro j hj o ho act U hb hoth hdep;have hj':j<8:=hj;have hbU:Bw w U:=hBW.trans (hb.mono hBW.size);have t4':act.tmps[(4:Nat)]?=some (Value.pointer (some ⟨w.heap.size,0,none⟩)):=(hoth 4 (by decide)).trans rfl
  have t5':act.tmps[(5:Nat)]?=some (Value.pointer (some ⟨w.heap.size+1,0,none⟩)):=(hoth 5 (by decide)).trans rfl
  have d4:=(qJ7 (qQ m1.1 hb (qQ6 m1.1))).1;have d5:=(qV9 (qQ mS hb (qQ6 mS))).1;rcases(by omega:j=0∨j=1∨j=2∨j=3∨j=4∨j=5∨j=6∨j=7)with rfl|rfl|rfl|rfl|rfl|rfl|rfl|rfl
  ·obtain rfl:=xL2 ho;exact .inl ⟨rfl,yA0 rfl t5' (by simp[go_sem,d5.1,d5.2.1,d5.2.2.1,d5.2.2.2.1,d5.2.2.2.2.1,d5.2.2.2.2.2]) ⟨_,rfl,rfl,xL1 _ _⟩⟩
  ·obtain rfl:=xL2 ho;exact .inl ⟨rfl,qJ1 (f:=0) rfl t4' d4.1 d4.2.1 d4.2.2 ⟨_,rfl,rfl,xL1 _ _⟩⟩
  ·obtain rfl:=xL2 ho;have y1:act.tmps[(24:Nat)]?=_:=dV (hdep 1 (by simp[dL])) rfl
   refine .inl ⟨rfl,qZ1 rfl (qX2 Tryz.func125 (by kernel_rfl) (by kernel_rfl)) (yG7 y1) ?_⟩
   refine(k2.out U _ hbU (m1.2.later hb)).mono ?_
   rintro r w' ⟨_,_,_,_,_,rfl,hA,hb'⟩;exact⟨_,rfl,_,rfl,hA,hb'⟩
  ·obtain rfl:=xL2 ho;have y0:act.tmps[(23:Nat)]?=_:=dV (hdep 0 (by simp[dL])) rfl
   obtain⟨u2,y2a,v2⟩:=hdep 2 (by simp[dL])
   have y2:act.tmps[(25:Nat)]?=_:=y2a;refine .inl ⟨rfl,qZ1 rfl (qX2 Tryz.func153 (by kernel_rfl) (by kernel_rfl)) (map2 y0 y2) ?_⟩
   refine(k3.out U _ hbU (p1.later hb) (p2.later hb) v2).mono ?_
   rintro r w' ⟨_,_,_,_,_,rfl,hA,hb'⟩;exact⟨_,rfl,_,rfl,⟨_,rfl,hA⟩,hb'⟩
  ·obtain rfl:=xL2 ho;obtain⟨u3,y3a,v3⟩:=hdep 3 (by simp[dL])
   have y3:act.tmps[(26:Nat)]?=_:=y3a;exact .inl ⟨rfl,qZ5 rfl y3 ⟨_,rfl,v3,xL1 _ _⟩⟩
  ·obtain rfl:=xL2 ho;obtain⟨u4,y4a,A,rfl,vA⟩:=hdep 4 (by simp[dL])
   have y4:act.tmps[(22:Nat)]?=_:=y4a;exact .inl ⟨rfl,qV2 rfl y4 rfl ⟨_,rfl,vA,xL1 _ _⟩⟩
  ·obtain rfl:=xL2 ho;obtain⟨u4,y4a,A,rfl,vA⟩:=hdep 4 (by simp[dL])
   have y4:act.tmps[(22:Nat)]?=_:=y4a;exact .inl ⟨rfl,qV2 rfl y4 rfl ⟨_,rfl,rfl,xL1 _ _⟩⟩
  ·obtain rfl:=xL2 ho;have y6:act.tmps[(28:Nat)]?=_:=dV (hdep 6 (by simp[dL])) rfl
   exact .inl ⟨rfl,qX3 rfl y6 ⟨_,rfl,rfl,xL1 _ _⟩⟩
 ·intro k' hk;obtain rfl:k'=0:=Nat.lt_one_iff.1 hk;exact⟨_,rfl,rfl⟩
 ·intro k' hk;obtain rfl:k'=0:=Nat.lt_one_iff.1 hk;exact⟨_,rfl,rfl⟩
 ·intro u g W3 hb3 hu hg hap;obtain⟨g0,cs0,q0,z0⟩:=hg 0 (by decide)
  have q7:PN W3 (u 5) (tn):=hu 5 (by decide)
  have q0':u 5=.agg cs0:=q0;rw[q0'] at q7;obtain⟨s5,ao5,n5,cp5,e5,h5⟩:=q7.shape1;obtain rfl:=Value.agg.inj h5;obtain⟨gqN,hgS⟩:∃ x,x=g 0:=⟨_,rfl⟩;rw[←hgS] at z0 g0;have u7:u 7=.bool is:=hu 7 (by decide)
  have H3:Hid (Bw w W3∧PBx W3 gqN s5 ao5 n5 cp5 e5 tn):=⟨hBW.trans (hb3.mono hBW.size),⟨z0,q7⟩⟩;clear hu hg hap hb3 m1 mS p1 p2 hBW H1 q0 q0' z0 g0 q7 h5 k2 k3;simp only[putL,show List.range 8 = [0,1,2,3,4,5,6,7] from rfl,show List.range 1 = [0] from rfl,List.length_cons,List.length_nil,List.getD_cons_zero,List.getD_cons_succ,List.map_cons,List.map_nil,List.cons_append,List.nil_append,List.foldl_cons,List.foldl_nil,Nat.reduceLT,Nat.reduceMod,Nat.reduceDiv,Nat.reduceMul,Nat.reduceAdd,Nat.reduceEqDiff,reduceIte,Nat.one_ne_zero,Act.put,List.setIfInBounds_toArray,List.set_cons_zero,List.set_cons_succ];rw[←hgS];clear hgS;rw[u7];clear u7;obtain⟨⟨d0,d1,d2⟩,-⟩:=qQ1 H3.out.2.1;have kk:=k4.out W3 _ H3.out.1 H3.out.2.2;clear k4
  go_wp2_with fail;refine kk.mono ?_;rintro r w4 ⟨rfl,hb4⟩;have H4:Hid (Bw w w4):=H3.out.1.trans (hb4.mono H3.out.1.size);have kk2:=k5.out w4 H4.out;clear kk d0 d1 d2 hb4 H3 k5
  go_wp2_with fail;refine kk2.mono ?_;rintro r w5 ⟨s6,ao6,n6,cp6,e6,rfl,hA,hb5⟩;have H5:Hid (Bw w w5):=H4.out.trans (hb5.mono H4.out.size);have kk3:=k6.out w5 _ H5.out hA;clear kk2 hb5 H4 k6 hA
  go_wp2_with fail;refine kk3.mono ?_;rintro r w6 ⟨rfl,hb6⟩;have H6:Hid (Bw w w6):=H5.out.trans (hb6.mono H5.out.size);clear kk3 hb6 H5
  go_upto_region 5 with fail;obtain⟨U,hU⟩:∃ U,U=fwU 0:=⟨_,rfl⟩;have HU:Hid (U=fwU 0∧0<U∧U≤10000000000000000):=⟨hU,by rw[hU];exact zK5 0,by rw[hU];exact zI2 0⟩
  rw[←hU];clear hU;have hU0:0<U:=HU.out.2.1;have hUn:((U:Int)==0)=false:=by rw[xC2];omega
  obtain⟨T2,hT2⟩:∃ T2,T2=TW / 2:=⟨_,rfl⟩;have HT2:Hid (T2=TW / 2):=hT2;obtain⟨q,hq⟩:∃ q,q=T2 / U:=⟨_,rfl⟩;obtain⟨l0,hl⟩:∃ l0,l0=q*U:=⟨_,rfl⟩;have Hl0:Hid (l0=fwL TW 0):=(by rw[hl,hq,hT2,HU.out.1];rfl:l0=fwL TW 0)
  have b1:l0≤T2:=by rw[hl,hq];exact xE9 _ _
  have b2:q≤T2:=by rw[hq];exact xW0 _ _
  have b3:T2<4611686018427387904:=by omega
  have e1:Int.tdiv (TW:Int) 2=(T2:Int):=by rw[hT2];exact zM5 _ _
  have e2:Int.tdiv (T2:Int) (U:Int)=(q:Int):=by rw[hq];exact zM5 _ _
  have e3:(q:Int)*(U:Int)=(l0:Int):=by rw[hl];exact(xC8 _ _).symm
  have w1:IntKind.u64.wrap (T2:Int)=(T2:Int):=by rw[xW7];omega
  have w2:IntKind.u64.wrap (q:Int)=(q:Int):=by rw[xW7];omega
  have w3:IntKind.u64.wrap (l0:Int)=(l0:Int):=by rw[xW7];omega
  clear hT2 hq hl
  go_wp2;clear e1 e2 e3 w1 w2 w3 b1 b2 hU0 hUn
  go_loopg [12,13] J (fun m u l wr=>∃ j:Nat,j+m=J∧u=.int .u64 (fwU j:Nat)∧l=.int .u64 (fwL TW j:Nat)∧wr=w6)
  case atStart=>exact⟨0,by omega,by rw[HU.out.1],by rw[Hl0.out],rfl⟩
  case round =>
   obtain⟨j,hjm,rfl,rfl,hwr⟩:=hrel;replace hwr:=hwr.symm;subst hwr;have HJM:Hid (j+gk=J):=hjm;clear Hl0 HU hjm;obtain⟨Uj,hUj⟩:∃ Uj,Uj=fwU j:=⟨_,rfl⟩;obtain⟨Lj,hLj⟩:∃ Lj,Lj=fwL TW j:=⟨_,rfl⟩;have HUL:Hid (Uj=fwU j∧Lj=fwL TW j∧Lj=T2 / Uj*Uj):=⟨hUj,hLj,by rw[hLj,hUj,HT2.out];rfl⟩
   have b0:0<Uj:=by rw[hUj];exact zK5 j
   have b1:Uj≤10000000000000000:=by rw[hUj];exact zI2 j
   have b2:Lj≤T2:=by rw[HUL.out.2.2];exact xE9 _ _
   have b4:T2≤TW:=by rw[HT2.out];exact xW0 _ _
   rw[←hUj,←hLj];clear hUj hLj;have w0:IntKind.u64.wrap ((Lj:Int)+(Uj:Int))=(Lj:Int)+(Uj:Int):=by rw[xW7];omega
   by_cases hlt:j<J
   ·obtain⟨x1,x2,x3⟩:=hJ1.out j hlt;rw[←HUL.out.1] at x1 x3;rw[←HUL.out.2.1] at x2 x3;obtain⟨n1',n2'⟩:=yF2 (j:=j) (by rw[←HUL.out.1];exact x1)
    have c1:(1:Int)<(Uj:Int):=by omega
    have c2:(Lj:Int)<(LS:Int):=by omega
    have c3:(MS:Int)<(Lj:Int)+(Uj:Int):=by omega
    obtain⟨Uk,hUk⟩:∃ Uk,Uk=Uj / 10:=⟨_,rfl⟩;have HK:Hid (Uk=fwU (j+1)):=(by rw[hUk,HUL.out.1];exact n1':Uk=fwU (j+1))
    have hk0:0<Uk:=by rw[HK.out];exact zK5 _
    have hkn:((Uk:Int)==0)=false:=by rw[xC2];omega
    obtain⟨q,hq⟩:∃ q,q=T2 / Uk:=⟨_,rfl⟩;obtain⟨l0,hl⟩:∃ l0,l0=q*Uk:=⟨_,rfl⟩;have Hl0:Hid (l0=fwL TW (j+1)):=(by rw[hl,hq,HT2.out,HK.out];rfl:l0=fwL TW (j+1))
    have d1:l0≤T2:=by rw[hl,hq];exact xE9 _ _
    have d2:q≤T2:=by rw[hq];exact xW0 _ _
    have a0:Int.tdiv (Uj:Int) 10=(Uk:Int):=by rw[hUk];exact zM5 _ _
    have a1:Int.tdiv (TW:Int) 2=(T2:Int):=by rw[HT2.out];exact zM5 _ _
    have a2:Int.tdiv (T2:Int) (Uk:Int)=(q:Int):=by rw[hq];exact zM5 _ _
    have a3:(q:Int)*(Uk:Int)=(l0:Int):=by rw[hl];exact(xC8 _ _).symm
    have w4:IntKind.u64.wrap (Uk:Int)=(Uk:Int):=by rw[xW7];omega
    have w1:IntKind.u64.wrap (T2:Int)=(T2:Int):=by rw[xW7];omega
    have w2:IntKind.u64.wrap (q:Int)=(q:Int):=by rw[xW7];omega
    have w3:IntKind.u64.wrap (l0:Int)=(l0:Int):=by rw[xW7];omega
    clear hq hl hUk x1 x2 x3 n1' n2'
    go_wp2
    go_roundg (gk - 1)
    case measure=>have:=HJM.out;omega
    case rel=>exact⟨j+1,by have:=HJM.out;omega,by rw[HK.out],by rw[Hl0.out],rfl⟩
   ·obtain rfl:j=J:=by have:=HJM.out;omega
    have hst:=hJ2.out;rw[←HUL.out.1,←HUL.out.2.1] at hst
    go_upto_region 6 with fail
    go_cut [52] from 39 to 51 (fun v wx=>v=.bool false∧wx=w6)
    case first =>
     by_cases x1:1<Uj
     ·have c1:(1:Int)<(Uj:Int):=by omega
      by_cases x2:Lj<LS
      ·have c2:(Lj:Int)<(LS:Int):=by omega
       have c3:¬ (MS:Int)<(Lj:Int)+(Uj:Int):=fun h=>hst ⟨x1,x2,by omega⟩
       clear hst x1 x2
       go_wp2
       go_meet
       exact⟨rfl,rfl⟩
      ·have c2:¬ (Lj:Int)<(LS:Int):=by omega
       clear hst x1 x2
       go_wp2
       go_meet
       exact⟨rfl,rfl⟩
     ·have c1:¬ (1:Int)<(Uj:Int):=by omega
      clear hst x1
      go_wp2
      go_meet
      exact⟨rfl,rfl⟩
    case rest =>
    obtain⟨rfl,hwr⟩:=hcut;replace hwr:=hwr.symm;subst hwr;clear hst hlt hJ1 hJ2;have hab':=hab.out;have hF':=hF.out;rw[←HUL.out.1,←HUL.out.2.1] at hab' hF';obtain⟨Q,hQ⟩:∃ Q,Q=Lj / Uj:=⟨_,rfl⟩;rw[←hQ] at hab';obtain⟨fr,hfr⟩:∃ fr,fr=TW - 2*Lj:=⟨_,rfl⟩;rw[←hfr] at hab';have h2L:2*Lj≤TW:=by have:=HT2.out;omega
    obtain⟨D,hD⟩:∃ D,D=2*Lj:=⟨_,rfl⟩;have v1:IntKind.u64.wrap (2*(Lj:Int))=(D:Int):=by rw[xW7];omega
    have v2:IntKind.u64.wrap ((TW:Int) - (D:Int))=(fr:Int):=by rw[xW7];omega
    have HAB:Hid (ab=(decide (Uj<fr)||(decide (fr=Uj)&&(!is||decide (Q % 2=1))))):=hab';have HF:Hid (F=if Lj<LS∨(ab=true∧Lj+Uj≤MS)then Lj+Uj else Lj):=hF';have v3:Int.tdiv (Lj:Int) (Uj:Int)=(Q:Int):=by rw[hQ];exact zM5 _ _
    have v4:IntKind.u64.wrap (Q:Int)=(Q:Int):=by
     have:Q≤Lj:=by rw[hQ];exact xW0 _ _
     rw[xW7];omega
    have v5:((Uj:Int)==0)=false:=by rw[xC2];omega
    have hfrb:fr≤TW:=by omega
    clear hab' hF' hQ hfr h2L hD hab hF
    go_upto_region 9 with fail
    go_upto_region 10 with fail;clear v1 v2
    go_cut [15] from 65 to 83 (fun v wx=>v=.bool ab∧wx=w6)
    case first =>
     by_cases x1:Uj<fr
     ·have c1:(Uj:Int)<(fr:Int):=by omega
      have HA:Hid (ab=true):=(by rw[HAB.out,xL4 x1];rfl:ab=true)
      go_wp2
      go_meet
      exact⟨by rw[HA.out],rfl⟩
     ·have c1:¬ (Uj:Int)<(fr:Int):=by omega
      by_cases x2:fr=Uj
      ·have c2:((fr:Int)==(Uj:Int))=true:=by rw[beq_iff_eq];omega
       cases is
       ·have HA:Hid (ab=true):=(by rw[HAB.out,xL4 x2];simp:ab=true)
        clear x1 x2 HAB HF
        go_wp2
        go_meet
        exact⟨by rw[HA.out],rfl⟩
       ·obtain⟨o,ho⟩:∃ o,o=decide (Q % 2=1):=⟨_,rfl⟩;have HA:Hid (ab=o):=(by rw[HAB.out,xL3 x1,xL4 x2,ho];simp:ab=o)
        have v6:Int.tmod (Q:Int) 2=((Q % 2:Nat):Int):=by rw[Int.tmod_eq_emod_of_nonneg (by omega)];omega
        have v7:IntKind.u64.wrap ((Q % 2:Nat):Int)=((Q % 2:Nat):Int):=by rw[xW7];omega
        have v8:(((Q % 2:Nat):Int)==1)=o:=by
         rw[ho];by_cases h:Q % 2=1
         ·rw[h];rfl
         ·rw[xL3 h,xC2];omega
        generalize Q % 2=q2 at *;clear x1 x2 ho HAB HF
        go_wp2
        go_meet
        exact⟨by rw[HA.out],rfl⟩
      ·have c2:((fr:Int)==(Uj:Int))=false:=by rw[xC2];omega
       have HA:Hid (ab=false):=(by rw[HAB.out,xL3 x1,xL3 x2];rfl:ab=false)
       clear x2 x1
       go_wp2
       go_meet
       exact⟨by rw[HA.out],rfl⟩
    case rest =>
    obtain⟨rfl,hwr⟩:=hcut;replace hwr:=hwr.symm;subst hwr;clear HAB v3 v4 v5 hfrb;obtain⟨cb,hcb⟩:∃ cb,cb=decide (Lj<LS∨(ab=true∧Lj+Uj≤MS)):=⟨_,rfl⟩;have HC:Hid (cb=decide (Lj<LS∨(ab=true∧Lj+Uj≤MS))):=hcb;clear hcb
    go_upto_region 11 with fail
    go_cut [96] from 84 to 95 (fun v wx=>v=.bool cb∧wx=w6)
    case first =>
     by_cases x1:Lj<LS
     ·have c1:(Lj:Int)<(LS:Int):=by omega
      have HA:Hid (cb=true):=(by rw[HC.out];exact xL4 (.inl x1):cb=true)
      clear x1
      go_wp2
      go_meet
      exact⟨by rw[HA.out],rfl⟩
     ·have c1:¬ (Lj:Int)<(LS:Int):=by omega
      cases ab
      ·have HA:Hid (cb=false):=(by rw[HC.out];exact xL3 (fun h=>h.elim x1 (fun h=>absurd h.1 (by decide))):cb=false)
       clear x1
       go_wp2
       go_meet
       exact⟨by rw[HA.out],rfl⟩
      ·by_cases x2:Lj+Uj≤MS
       ·have c2:(Lj:Int)+(Uj:Int)≤(MS:Int):=by omega
        have HA:Hid (cb=true):=(by rw[HC.out];exact xL4 (.inr ⟨rfl,x2⟩):cb=true)
        clear x1 x2
        go_wp2
        go_meet
        exact⟨by rw[HA.out],rfl⟩
       ·have c2:¬ (Lj:Int)+(Uj:Int)≤(MS:Int):=by omega
        have HA:Hid (cb=false):=(by rw[HC.out];exact xL3 (fun h=>h.elim x1 (fun h=>x2 h.2)):cb=false)
        clear x1 x2
        go_wp2
        go_meet
        exact⟨by rw[HA.out],rfl⟩
    case rest =>
    obtain⟨rfl,hwr⟩:=hcut;replace hwr:=hwr.symm;subst hwr;have HFF:Hid (F=if cb=true then Lj+Uj else Lj):=(by rw[HF.out,HC.out];simp only[decide_eq_true_eq]:F=if cb=true then Lj+Uj else Lj)
    clear HF HC;cases cb
    ·obtain rfl:F=Lj:=HFF.out
     go_wp2
     go_ret;exact⟨rfl,H6.out⟩
    ·obtain rfl:F=Lj+Uj:=HFF.out
     go_wp2
     go_ret;exact⟨by push_cast;rfl,H6.out⟩
end Go.Proofs.YtbanebginnakhaaGreatDoor
namespace Go.Proofs.YtbanebginnakhaaGreatDoor
open Go Go.RowKit Go.Fl64
def yG4 (a:Nat):Nat:=if mag a=0 then 1 else if neg a then a - 1 else a+1
theorem yA8 (a:Nat) (w:World) (hn:(FloatKind.f64.format.order a a != some Ordering.eq)=false) (h2:((a:Int)==9218868437227405312)=false) (h3:(FloatKind.f64.format.order a 0==some Ordering.eq)=true) :
  Calls Tryz.prog 223 #[.float .f64 a] w fun r w'=>r=.returned (.float .f64 1)∧w'=w:=by
 have kb:=Ie.run_bits;have kf:=Ie.run_frombits
 go_enter Tryz.func223,Tryz.ntmps223
 go_wp2
 go_ret;exact⟨rfl,rfl⟩
theorem yA7 (a:Nat) (r:Int) (w:World) (hn:(FloatKind.f64.format.order a a != some Ordering.eq)=false) (h2:((a:Int)==9218868437227405312)=false) (h3:(FloatKind.f64.format.order a 0==some Ordering.eq)=false) (h4:(bits .and .u64 (a:Int) 9223372036854775808 != 0)=true) (h5:IntKind.u64.wrap ((a:Int) - 1)=r) :
  Calls Tryz.prog 223 #[.float .f64 a] w fun e w'=>e=.returned (.float .f64 r.toNat)∧w'=w:=by
 have kb:=Ie.run_bits;have kf:=Ie.run_frombits
 go_enter Tryz.func223,Tryz.ntmps223
 go_wp2
 go_ret;exact⟨rfl,rfl⟩
theorem yA6 (a:Nat) (r:Int) (w:World) (hn:(FloatKind.f64.format.order a a != some Ordering.eq)=false) (h2:((a:Int)==9218868437227405312)=false) (h3:(FloatKind.f64.format.order a 0==some Ordering.eq)=false) (h4:(bits .and .u64 (a:Int) 9223372036854775808 != 0)=false) (h5:IntKind.u64.wrap ((a:Int)+1)=r) :
  Calls Tryz.prog 223 #[.float .f64 a] w fun e w'=>e=.returned (.float .f64 r.toNat)∧w'=w:=by
 have kb:=Ie.run_bits;have kf:=Ie.run_frombits
 go_enter Tryz.func223,Tryz.ntmps223
 go_wp2
 go_ret;exact⟨rfl,rfl⟩
theorem yG3 (a:Nat) (ha:a<18446744073709551616) (hn:mag a<9218868437227405312) (w:World) :
  Calls Tryz.prog 223 #[.float .f64 a] w fun r w'=>r=.returned (.float .f64 (yG4 a))∧w'=w:=by
 have n1:qG2 a=false:=xL3 (by omega)
 have q1:=zY1 a ha;rw[n1] at q1;have q2:((a:Int)==9218868437227405312)=false:=by
  rw[xC2];intro h;have:a=9218868437227405312:=by omega
  rw[this] at hn;revert hn;decide
 have q3:=zT ha;have q3':(FloatKind.f64.format.order a 0==some Ordering.eq)=decide (mag a=0):=by
  have:(FloatKind.f64.format.order a 0 != some Ordering.eq) = !(FloatKind.f64.format.order a 0==some Ordering.eq):=rfl
  rw[this] at q3;revert q3
  cases (FloatKind.f64.format.order a 0==some Ordering.eq) <;> cases decide (mag a=0) <;> simp
 have q4:(bits .and .u64 (a:Int) 9223372036854775808 != 0)=neg a:=by
  rw[zM a ha];cases neg a <;> decide
 unfold yG4;by_cases h0:mag a=0
 ·rw[if_pos h0];rw[xL4 h0] at q3';exact yA8 a w q1 q2 q3'
 ·rw[if_neg h0];rw[xL3 h0] at q3';cases hs:neg a
  ·rw[hs] at q4;have h9:a<9223372036854775808:=by unfold neg at hs;simpa using hs
   rw[if_neg (by decide)]
   exact yA6 a ((a+1:Nat):Int) w q1 q2 q3' q4 (by rw[xW7];omega)
  ·rw[hs] at q4;have h9:9223372036854775808≤a:=by unfold neg at hs;simpa using hs
   rw[if_pos rfl];exact yA7 a ((a - 1:Nat):Int) w q1 q2 q3' q4 (by rw[xW7];omega)
theorem yE3 {t:Bool×Nat×Int} {X:Value} {w:World} (ok:Ok t) (h:PN w X t):Calls Tryz.prog 152 #[X] w fun r w'=>r=.returned (.int .i64 ((bl t.2.1:Nat)+t.2.2))∧Bw w w':=by
 obtain⟨pa,pc,rfl,i1⟩:=h;have f:=ok.facts;refine xH7 t.1 pa _ pc t.2.2 _ w (fun W g hW hg=>?_) (fun W' hW'=>c75 (i1.later hW') (by omega) (by omega) (by omega))
 have:=zQ9 hg (i1.later hW) (by omega)
 have ok':okN t.1 (dlen t.2.1) t.2.1 t.2.2=true:=ok;rw[ok'] at this;exact this
theorem yE2 {A p b:Nat} (h:A<2^b) (h0:A≠0) (hb:b≤60000) (hp:p≤60000) {W:World} {X:Value} (hX:PN W X (un (A:Int) p)) :
  Calls Tryz.prog 152 #[X] W fun r w'=>r=.returned (.int .i64 ((bl A:Nat) - (p:Int)))∧Bw W w':=by
 have k:=yE3 (qG0 (nabs h) hb hp) hX;have sp:=(qX0 _ _ (xL0 _) h0).1;have e1:(un (A:Int) p).2.1=A / 2^tz A:=by unfold un cn;rw[xC1,if_neg h0]
 have e2:(un (A:Int) p).2.2=(tz A:Int) - p:=by unfold un cn;rw[xC1,if_neg h0];show -(p:Int)+(tz A:Int)=_;omega
 have hx:A / 2^tz A≠0:=by intro h9;rw[h9,Nat.mul_zero] at sp;omega
 have e3:bl A=bl (A / 2^tz A)+tz A:=by
  have:=zV9 (x:=A / 2^tz A) (k:=tz A) hx
  rw[xC4,sp] at this;exact this
 rw[e1,e2] at k;rw[e3];rw[show((bl (A / 2^tz A)+tz A:Nat):Int) - (p:Int)=((bl (A / 2^tz A):Nat):Int)+((tz A:Int) - p) by push_cast;omega]
 exact k
theorem zP {R:Nat} (h:R<9218868437227405312) (W:World):(Op.unary UnOp.neg (Value.float .f64 R)).run Tryz.prog W=.ok (.float .f64 (R+9223372036854775808)) W:=by
 have hn:Op.negFloat .f64 R=R+9223372036854775808:=by rw[Fl64.negF R (by omega)];unfold Fl64.ngt Fl64.neg;simp;omega
 rw[←hn];rfl
theorem zM9 {R:Nat} (h:R<9218868437227405312) (W:World):(Op.unary UnOp.neg (Value.float .f64 (R+9223372036854775808))).run Tryz.prog W=.ok (.float .f64 R) W:=by
 have hn:Op.negFloat .f64 (R+9223372036854775808)=R:=by rw[Fl64.negF _ (by omega)];unfold Fl64.ngt Fl64.neg;simp
 have h2:(Op.unary UnOp.neg (Value.float .f64 (R+9223372036854775808))).run Tryz.prog W=.ok (.float .f64 (Op.negFloat .f64 (R+9223372036854775808))) W:=rfl;rw[h2,hn]
theorem Dprev {a:Nat} (h0:0<a) (h1:a<9218868437227405312) (w:World):Calls Tryz.prog 198 #[.float .f64 a] w fun r w'=>r=.returned (.float .f64 (a - 1))∧w'=w:=by
 have hm:mag (a+9223372036854775808)=a:=by unfold mag;omega
 have k:=yG3 (a+9223372036854775808) (by omega) (by rw[hm];exact h1)
 have e:yG4 (a+9223372036854775808)=a - 1+9223372036854775808:=by
  unfold yG4;rw[hm,if_neg (by omega),if_pos (by unfold neg;exact xL4 (by omega))]
  omega
 rw[e] at k;have n1:=zP h1;have n2:=zM9 (R:=a - 1) (by omega)
 generalize a - 1=c at *;clear e hm h0 h1
 go_enter Tryz.func198,Tryz.ntmps198
 go_wp2_with (first|(go_at_call 223;refine(k _).mono ?_;rintro r w' ⟨rfl,hw⟩;replace hw:=hw.symm;subst hw))
 go_ret;exact⟨rfl,rfl⟩
def utF (a:Nat):Nat:=Ie.mk false 1 (Ie.lp a) 2 9221120237041090561
theorem Dunit {a:Nat} (ha:a<18446744073709551616) (hf:mag a<9218868437227405312) (w:World):Calls Tryz.prog 199 #[.float .f64 a] w fun r w'=>r=.returned (.float .f64 (utF a))∧w'=w:=by
 obtain⟨c1,c2,-⟩:=zV0 hf;have kC:=fun V=>Ie.c9 a ha V;have kL:=fun V=>Ie.c47 a ha V;have kM:=fun V=>Ie.c24 false 1 (Ie.lp a) 2 (by omega) V
 have hc1:(cls a==1)=false:=by rw[xC2];exact c1
 have hc2:(cls a==2)=false:=by rw[xC2];exact c2
 unfold utF;generalize cls a=c at *;generalize Ie.lp a=L at *;generalize Ie.mk false 1 L 2 9221120237041090561=F at *;clear c1 c2 ha hf
 go_enter Tryz.func199,Tryz.ntmps199
 go_wp2_with (first|(go_at_call 36;refine(kC _).mono ?_;rintro r w' ⟨rfl,hw⟩;replace hw:=hw.symm;subst hw)|(go_at_call 221;refine(kL _).mono ?_;rintro r w' ⟨rfl,hw⟩;replace hw:=hw.symm;subst hw)|(go_at_call 48;refine(kM _).mono ?_;rintro r w' ⟨rfl,hw⟩;replace hw:=hw.symm;subst hw))
 go_ret;exact⟨rfl,rfl⟩
def woX0 (A:Nat):Int:=((bl A:Nat) - (kP:Int) - 1)*1262611 / 4194304
def woX (A:Nat):Int:=if 0<unF (A:Int) (tnO (-woX0 A - 1)) (tnU (-woX0 A - 1))then woX0 A+1 else woX0 A
theorem xR {A:Nat} (h:A<2^bU) (h0:A≠0):1≤bl A∧bl A≤2200:=by
 refine⟨?_,(qJ8 A bU).2 h⟩
 rcases Nat.lt_or_ge 0 (bl A)with h1|h1
 ·exact h1
 ·have:=(qJ8 A 0).1 h1
  rw[xC7] at this;omega
theorem yM9 {A:Nat} (h:A<2^bU) (h0:A≠0) : -400≤woX0 A∧woX0 A≤400:=by
 have hb:=xR h h0;have hk:=zA2;unfold woX0;generalize kP=x at *;omega
theorem woX_b {A:Nat} (h:A<2^bU) (h0:A≠0) : -400≤woX A∧woX A≤401:=by
 have:=yM9 h h0
 unfold woX;split <;> omega
theorem xT4 {A:Nat} {X:Value} {w:World} (hT:Tab32 w) (h:A<2^bU) (h0:A≠0) (hX:PN w X (un (A:Int) kP)) :
  Calls Tryz.prog 104 #[X] w fun r w'=>r=.returned (.int .i64 (woX A))∧Bw w w':=by
 obtain⟨s3,ao3,n3,cp3,e3,rfl⟩:=hX.shape;have hb:=xR h h0;have hw:=yM9 h h0;have hk:=zA2;obtain⟨t1,t2,t3,t4⟩:=yL2 (pl := -woX0 A - 1) (by omega) (by omega)
 have hF:=xK (Z:=(A:Int)) (k:=bU) (l:=dB) (nabs h) t1 t3;have k:=yN0 s3 ao3 n3 cp3 e3 ((bl A:Nat) - (kP:Int)) (woX0 A) (if unF (A:Int) (tnO (-woX0 A - 1)) (tnU (-woX0 A - 1))=0 then 0 else if unF (A:Int) (tnO (-woX0 A - 1)) (tnU (-woX0 A - 1))<0 then -1 else 1) (un ((tnO (-woX0 A - 1):Nat):Int) 0) (un ((tnU (-woX0 A - 1):Nat):Int) 0) (un (A:Int) kP) (un (unF (A:Int) (tnO (-woX0 A - 1)) (tnU (-woX0 A - 1))) 0) (unX (A:Int) (tnO (-woX0 A - 1)) (tnU (-woX0 A - 1))) w hX (by omega) (by omega) rfl
  (fun W hW hX=>yE2 (b:=bU) h h0 (by rw[qW5];omega) (by omega) hX)
  (fun W hW=>yK5 (hT.later hW) (by omega) (by omega) (fun n hn=>klen hn))
  (fun s1 ao1 n1 cp1 e1 s2 ao2 n2 cp2 e2 s3 ao3 n3 cp3 e3 W hW q1 q2 q3=>yJ0 (Z:=(A:Int)) (O:=tnO (-woX0 A - 1)) (U:=tnU (-woX0 A - 1)) (p:=kP) (k:=bU) (l:=dB) (hT.later hW) ⟨_,_,_,_,_,_,_,_,_,_,rfl,q1,q2⟩ q3 (nabs h) t1 t2 t3 dk1)
  (fun W X hW hX=>qA hF (xE8 dk3) (by omega) hX)
  (by show -1≤_∧_≤1;split <;> (try split) <;> omega)
 have e:(if 0<(if unF (A:Int) (tnO (-woX0 A - 1)) (tnU (-woX0 A - 1))=0 then(0:Int)else if unF (A:Int) (tnO (-woX0 A - 1)) (tnU (-woX0 A - 1))<0 then -1 else 1)then woX0 A+1 else woX0 A)=woX A:=by
  unfold woX;generalize unF (A:Int) (tnO (-woX0 A - 1)) (tnU (-woX0 A - 1))=u;by_cases c1:u=0
  ·rw[if_pos c1,c1]
  ·rw[if_neg c1];by_cases c2:u<0
   ·rw[if_pos c2,if_neg (by decide),if_neg (by omega)]
   ·rw[if_neg c2,if_pos (by decide),if_pos (by omega)]
 rw[e] at k;exact k
def kQ:Nat:=1075
theorem xB1:(kP:Int) - (-1)=kQ:=rfl
theorem kQ_n:kQ=kP+1:=rfl
def shX (a:Nat):Int:=woX (fU a)
def shO (a:Nat):Nat:=tnO (16 - shX a)
def shU (a:Nat):Nat:=tnU (16 - shX a)
def flQ (Z:Int) (a:Nat):Int:=Z*(shO a:Int) / ((shU a*2^kQ:Nat):Int)
def exq (Z:Int) (a:Nat):Bool:=decide (Z*(shO a:Int) % ((shU a*2^kQ:Nat):Int)=0)
def nrF (Z:Int):Nat:=tfF (un Z kQ).1 true (un Z kQ).2.1 (un Z kQ).2.2 2
def isR (Z:Int) (a:Nat):Bool:=(FloatKind.f64.format.order (nrF Z) a==some Ordering.eq)
def loZ (a:Nat):Int:=sZ (a - 1)+sZ a
def hiZ (a:Nat):Int:=sZ a*2+sZ (utF a)
def shN (a:Nat):Nat:=(flQ (loZ a) a).toNat
def shM (a:Nat):Nat:=(flQ (hiZ a) a).toNat
def shL (a:Nat):Nat:=if exq (loZ a) a&&isR (loZ a) a then shN a else shN a+1
def shH (a:Nat):Nat:=if exq (hiZ a) a && !isR (hiZ a) a then shM a - 1 else shM a
def shTz (a:Nat):Int:=sZ a*(shO a:Int) / ((shU a*2^kP1:Nat):Int)
def shT (a:Nat):Nat:=(shTz a).toNat
def shI (a:Nat):Bool:=decide (sZ a*(shO a:Int) % ((shU a*2^kP1:Nat):Int)=0)
structure ShOk (a:Nat):Prop where
 pos:0<a
 fin:a<9218868437227405312
 ut:utF a<9218868437227405312
 lo:0≤flQ (loZ a) a
 lo2:shN a<2305843009213693952
 hi:0<flQ (hiZ a) a
 hi2:shM a<2305843009213693952
 tw:0≤shTz a
 tw2:shT a<2305843009213693952
theorem qG1 {a:Nat} (h:a<9218868437227405312):mag a<9218868437227405312:=by unfold mag;omega
theorem ShOk.x {a:Nat} (h:ShOk a) : -400≤shX a∧shX a≤401:=by
 refine woX_b (yO a) ?_;intro h0;have h1:mag a=a:=by unfold mag;have:=h.fin;omega
 have h2:=Ie.mant_ne (a:=a) (by rw[h1];have:=h.pos;omega)
 unfold fU at h0;rcases Nat.mul_eq_zero.1 h0 with h3|h3
 ·exact h2 h3
 ·exact absurd h3 (Nat.ne_of_gt (xL5 _))
theorem zA0 (a:Nat):(loZ a).natAbs<2^(bU+1+1):=by
 have h1:=qT9 (a - 1);have h2:=qT9 a;unfold loZ;exact qB 1 (zU2 h1 h2)
theorem yR (a:Nat):(hiZ a).natAbs<2^(bU+1+1):=by
 have h1:=qT9 a;have h2:=qT9 (utF a);unfold hiZ;have h3:(sZ a*2).natAbs<2^(bU+1):=by rw[xC5];omega
 exact zU2 h3 (qB 1 h2)
theorem dk7:bU+1+1+dB+kQ≤60000:=by have h1:=zA2;have h2:=qW5;have h3:=zD1;rw[kQ_n];generalize kP=x at *; generalize bU=y at *; generalize dB=z at *; omega
theorem dk8:bU+1+1≤60000:=by have h2:=qW5;generalize bU=y at *; omega
theorem dk9:kQ≤60000∧kP≤60000∧kP1≤60000:=by decide
theorem dkA:bU+dB+kP1≤60000:=by have h1:kP1=1073:=rfl;have h2:=qW5;have h3:=zD1;generalize kP1=x at *; generalize bU=y at *; generalize dB=z at *; omega
theorem zX5 {Z:Int} {a:Nat} {X:Value} {w:World} (hT:Tab32 w) (hZ:Z.natAbs<2^(bU+1+1)) (hX:PN w X (un Z kQ)) :
  Calls Tryz.prog 200 #[X,.float .f64 a] w fun r w'=>r=.returned (.bool (isR Z a))∧Bw w w':=by
 obtain⟨s3,ao3,n3,cp3,e3,rfl⟩:=hX.shape;exact zU9 s3 ao3 n3 cp3 e3 (un Z kQ) a (nrF Z) (isR Z a) 0 w hX (fun W hW hX=>xH1 (hT.later hW) (qG0 hZ dk8 dk9.1) hX (by omega)) rfl
theorem xY2 {a:Nat} {S:Value} {w:World} (hT:Tab32 w) (hI:Ie.Tab w) (ok:ShOk a) (hS:Fv w S (un ((shO a:Nat):Int) 0) (un ((shU a:Nat):Int) 0)) :
  Calls Tryz.prog 159 #[.float .f64 a,S] w fun r w'=>r=.returned (.tuple #[.int .u64 (shL a:Nat),.int .u64 (shH a:Nat)])∧Bw w w':=by
 obtain⟨s1,ao1,n1,cp1,e1,s2,ao2,n2,cp2,e2,rfl,p1,p2⟩:=hS;have hx:=ok.x;have hfin:=ok.fin;have hpos:=ok.pos;obtain⟨t1,t2,t3,t4⟩:=yL2 (pl:=16 - shX a) (by omega) (by omega)
 have ha:a<18446744073709551616:=by omega
 have hut:=ok.ut;have fl:∀ (Z:Int),Z.natAbs<2^(bU+1+1)→∀ W X,Bw w W→PN W (.agg #[.bool s1,.slice ao1 n1 cp1,.int .i64 e1]) (un ((shO a:Nat):Int) 0)→PN W (.agg #[.bool s2,.slice ao2 n2 cp2,.int .i64 e2]) (un ((shU a:Nat):Int) 0)→PN W X (un Z kQ)→Calls Tryz.prog 153 #[.agg #[.bool s1,.slice ao1 n1 cp1,.int .i64 e1,.bool s2,.slice ao2 n2 cp2,.int .i64 e2],X] W fun r w'=>zU5 W (un (flQ Z a) 0) (exq Z a) r w':=by
  intro Z hZ W X hW q1 q2 hX;exact yJ0 (Z:=Z) (O:=shO a) (U:=shU a) (p:=kQ) (k:=bU+1+1) (l:=dB) (hT.later hW) ⟨_,_,_,_,_,_,_,_,_,_,rfl,q1,q2⟩ hX hZ t1 t2 t3 dk7
 have wd:∀ (Z:Int),0≤flQ Z a→(flQ Z a).toNat<2305843009213693952→∀ W X,PN W X (un (flQ Z a) 0)→Calls Tryz.prog 156 #[X] W fun r w'=>r=.returned (.int .u64 ((flQ Z a).toNat:Nat))∧Bw W w':=by
  intro Z h1 h2 W X hX;rw[show flQ Z a=(((flQ Z a).toNat:Nat):Int) by omega] at hX
  exact yN1 (by omega) hX
 refine yK8 a (a - 1) (utF a) s1 ao1 n1 cp1 e1 s2 ao2 n2 cp2 e2 _ _ (un (sZ a) kP) (un (sZ (a - 1)) kP) (un (loZ a) kP) (un (loZ a) kQ) (un (sZ (utF a)) kP) (un (sZ (utF a)) kQ) (un (hiZ a) kQ) (un (flQ (loZ a) a) 0) (un (flQ (hiZ a) a) 0) (exq (loZ a) a) (exq (hiZ a) a) (isR (loZ a) a) (isR (hiZ a) a) (shN a) (shM a) (shL a) (shH a) w rfl rfl p1 p2 (by have:=ok.lo2;omega) (by have:=ok.hi2;omega) (by show 0<shM a;have:=ok.hi;unfold shM;omega) ?_ ?_ ?_ ?_ ?_ ?_ ?_ ?_ ?_ (fl _ (zA0 a)) ?_ ?_ (fl _ (yR a)) ?_ ?_
 ·intro W hW;exact zM2 (hT.later hW) (Tab.later hI hW) ha (qG1 hfin)
 ·intro W;refine(Dprev hpos hfin W).mono ?_
  rintro r w' ⟨rfl,rfl⟩;exact⟨rfl,xL1 _ _⟩
 ·intro W hW;exact zM2 (hT.later hW) (Tab.later hI hW) (by omega) (qG1 (by omega))
 ·intro W X Y hW hX hY;exact qW0 (zK (p:=kP) (k:=bU) (qT9 _) (qT9 _) (by rw[qW5];omega) dk9.2.1) (hT.later hW) hX hY
 ·intro W X hW hX;exact qT1 (b:=bU+1+1) (zA0 a) dk8 dk9.2.1 dk9.1 xB1 hX
 ·intro W;refine(Dunit ha (qG1 hfin) W).mono ?_
  rintro r w' ⟨rfl,rfl⟩;exact⟨rfl,xL1 _ _⟩
 ·intro W hW;exact zM2 (hT.later hW) (Tab.later hI hW) (by omega) (qG1 hut)
 ·intro W X hW hX;exact qT1 (b:=bU) (qT9 _) (by rw[qW5];omega) dk9.2.1 dk9.1 xB1 hX
 ·intro W X Y hW hX hY;have e:un (sZ a) kP=un (sZ a*2) kQ:=qH9 (sZ a) kP 1;rw[e] at hX;exact qW0 (zK (p:=kQ) (k:=bU+1) (by have:=qT9 a;rw[xC5];omega) (qB 1 (qT9 _)) (by rw[qW5];omega) dk9.1) (hT.later hW) hX hY
 ·intro W X hW hX;exact wd _ ok.lo ok.lo2 W X hX
 ·intro _ W X hW hX;exact zX5 (hT.later hW) (zA0 a) hX
 ·intro W X hW hX;exact wd _ (Int.le_of_lt ok.hi) ok.hi2 W X hX
 ·intro _ W X hW hX;exact zX5 (hT.later hW) (yR a) hX
def fwS (L H T:Nat):Nat→Nat→Nat
 | 0,j=>j
 | n+1,j=>if 1<fwU j∧fwL T j<L∧H<fwL T j+fwU j then fwS L H T n (j+1)else j
theorem yF3 (L H T:Nat):∀ n j,n+j=16→(∀ i,i<j→1<fwU i∧fwL T i<L∧H<fwL T i+fwU i) →
  (∀ i,i<fwS L H T n j→1<fwU i∧fwL T i<L∧H<fwL T i+fwU i)∧¬ (1<fwU (fwS L H T n j)∧fwL T (fwS L H T n j)<L∧H<fwL T (fwS L H T n j)+fwU (fwS L H T n j)):=by
 intro n;induction n with
 | zero =>
  intro j hj h;obtain rfl:j=16:=by omega
  exact⟨h,fun g=>absurd g.1 (by show ¬ 1<fwU 16;decide)⟩
 | succ n ih =>
  intro j hj h;unfold fwS;by_cases c:1<fwU j∧fwL T j<L∧H<fwL T j+fwU j
  ·rw[if_pos c];refine ih (j+1) (by omega) (fun i hi=>?_)
   by_cases e:i=j
   ·rw[e];exact c
   ·exact h i (by omega)
  ·rw[if_neg c];exact⟨h,c⟩
def shJ (a:Nat):Nat:=fwS (shL a) (shH a) (shT a) 16 0
def shA (a:Nat):Bool:=decide (fwU (shJ a)<shT a - 2*fwL (shT a) (shJ a))||(decide (shT a - 2*fwL (shT a) (shJ a)=fwU (shJ a))&&(!shI a||decide (fwL (shT a) (shJ a) / fwU (shJ a) % 2=1)))
def shF (a:Nat):Nat:=if fwL (shT a) (shJ a)<shL a∨(shA a=true∧fwL (shT a) (shJ a)+fwU (shJ a)≤shH a)then fwL (shT a) (shJ a)+fwU (shJ a)else fwL (shT a) (shJ a)
theorem zL9 {a:Nat} (ok:ShOk a):shF a<18446744073709551616:=by
 have h1:=xB9 (shT a) (shJ a);have h2:=zI2 (shJ a);have h3:=ok.tw2;unfold shF;split <;> omega
theorem xJ5 {a:Nat} (ok:ShOk a):shL a<4611686018427387904∧shH a<4611686018427387904:=by
 have h1:=ok.lo2;have h2:=ok.hi2;unfold shL shH;constructor <;> split <;> omega
theorem xY4 {a:Nat} {X S:Value} {w:World} (hT:Tab32 w) (hI:Ie.Tab w) (ok:ShOk a) (hX:PN w X (un (sZ a) kP)) (hS:Fv w S (un ((shO a:Nat):Int) 0) (un ((shU a:Nat):Int) 0)) :
  Calls Tryz.prog 106 #[.float .f64 a,X,S] w fun r w'=>r=.returned (.int .u64 (shF a:Nat))∧Bw w w':=by
 obtain⟨s1,ao1,n1,cp1,e1,s2,ao2,n2,cp2,e2,rfl,p1,p2⟩:=hS;obtain⟨s3,ao3,n3,cp3,e3,rfl⟩:=hX.shape;have hx:=ok.x;obtain⟨t1,t2,t3,t4⟩:=yL2 (pl:=16 - shX a) (by omega) (by omega)
 obtain⟨j1,j2⟩:=yF3 (shL a) (shH a) (shT a) 16 0 rfl (fun i hi=>absurd hi (Nat.not_lt_zero _));obtain⟨l1,l2⟩:=xJ5 ok;have htw:=ok.tw;have htw2:=ok.tw2;refine yJ1 a s1 ao1 n1 cp1 e1 s2 ao2 n2 cp2 e2 s3 ao3 n3 cp3 e3 _ _ _ (un (sZ a) kP1) (un (shTz a) 0) (un ((10^16:Nat):Int) 0) (shI a) (shA a) (shL a) (shH a) (shT a) (shJ a) (shF a) w p1 p2 hX l1 l2 (by omega) j1 j2 rfl rfl ?_ ?_ ?_ ?_ ?_ ?_
 ·intro W hW q1 q2;exact xY2 (hT.later hW) (Tab.later hI hW) ok ⟨_,_,_,_,_,_,_,_,_,_,rfl,q1,q2⟩
 ·intro W X hW hX;exact qT1 (b:=bU) (qT9 _) (by rw[qW5];omega) dk9.2.1 dk9.2.2 xB2 hX
 ·intro W X hW q1 q2 hX;exact yJ0 (Z:=sZ a) (O:=shO a) (U:=shU a) (p:=kP1) (k:=bU) (l:=dB) (hT.later hW) ⟨_,_,_,_,_,_,_,_,_,_,rfl,q1,q2⟩ hX (qT9 a) t1 t2 t3 dkA
 ·intro W X hW hX;rw[show shTz a=((shT a:Nat):Int) by unfold shT;omega] at hX
  exact yN1 (by omega) hX
 ·intro W hW;exact zM1 (bs:=10) (n:=16) (b:=60) (hT.later hW) (by omega) (by omega) (by omega) (by decide) (by omega) (fun V=>c156 16 (by omega) V)
 ·intro W X hW hX;have e9:fwU 0=10000000000000000:=by decide
  rw[e9];have e8:(10:Nat)^16=10000000000000000:=by decide
  rw[e8] at hX;exact yN1 (N:=10000000000000000) (by decide) hX
def shD (a:Nat):List UInt8:=Lib.trimRightB (dcT (shF a)) 48
def shE (a:Nat):Int:=(dcT (shF a)).length - 1 - (16 - shX a)
theorem zW {a:Nat} (ok:ShOk a):(dcT (shF a)).length≤36:=by
 have:=xQ1 (N:=shF a) (b:=64) (by rw[show(2:Nat)^64=18446744073709551616 from by decide];exact zL9 ok)
 omega
theorem zT7 (L:List UInt8) (c:UInt8):(Lib.trimRightB L c).length≤L.length:=by
 unfold Lib.trimRightB;rw[List.length_reverse];have:=(List.dropWhile_sublist (fun x=>x==c) (l:=L.reverse)).length_le
 rw[List.length_reverse] at this;exact this
theorem yK7 {a:Nat} {w:World} (hT:Tab32 w) (hI:Ie.Tab w) (ok:ShOk a) :
  Calls Tryz.prog 62 #[.float .f64 a] w fun r w'=>r=.returned (.tuple #[.string ⟨(shD a).toArray⟩,.int .i64 (shE a)])∧Bw w w':=by
 have hx:=ok.x;have hfin:=ok.fin;have hpos:=ok.pos;have hn:neg a=false:=by unfold neg;exact xL3 (by omega)
 have hz:sZ a=((fU a:Nat):Int):=by unfold sZ;rw[hn];rfl
 have hf0:fU a≠0:=by
  intro h0;have h1:mag a=a:=by unfold mag;omega
  have h2:=Ie.mant_ne (a:=a) (by rw[h1];omega)
  unfold fU at h0;rcases Nat.mul_eq_zero.1 h0 with h3|h3
  ·exact h2 h3
  ·exact absurd h3 (Nat.ne_of_gt (xL5 _))
 have hl:=zW ok;refine zU7 a (shX a) (shF a) (un (sZ a) kP) (un ((shO a:Nat):Int) 0) (un ((shU a:Nat):Int) 0) (un ((shF a:Nat):Int) 0) (dcT (shF a)) (shD a) w (by omega) (by omega) ?_ ?_ ?_ ?_ ?_ ?_ ?_
 ·intro W hW;exact zM2 (hT.later hW) (Tab.later hI hW) (by omega) (qG1 hfin)
 ·intro W X hW hX;rw[hz] at hX;exact xT4 (hT.later hW) (yO a) hf0 hX
 ·intro W hW;exact yK5 (hT.later hW) (by omega) (by omega) (fun n hn=>klen hn)
 ·intro W X S hW hX hS;exact xY4 (hT.later hW) (Tab.later hI hW) ok hX hS
 ·intro W hW;exact yJ (hT.later hW) (zL9 ok)
 ·intro W X hW hX;exact zS5 (b:=64) (hT.later hW) (by rw[show(2:Nat)^64=18446744073709551616 from by decide];exact zL9 ok) (by omega) hX
 ·intro W hW;have:=Tryz.strings_TrimRight_one ⟨(dcT (shF a)).toArray⟩ 48 (by decide) W (by show(dcT (shF a)).length≤_;omega)
  refine this.mono ?_;rintro r w' ⟨rfl,rfl⟩;exact⟨rfl,xL1 _ _⟩
def shS (a:Nat):List UInt8:=if shE a < -5∨20<shE a then exL (shD a) (Lib.itoa (shE a))else ptL (shD a) ((shD a).length - 1 - shE a)
theorem yO4 (d t:List UInt8):(exL d t).length≤d.length+t.length+3:=by
 unfold exL;rw[xE0,xE0,List.length_cons,List.length_take];by_cases h:1<d.length
 ·rw[if_pos h,List.length_cons,List.length_drop];omega
 ·rw[if_neg h,List.length_nil];omega
theorem yL8 {a:Nat} (hl2:(shD a).length≤36) (hE : -1000≤shE a∧shE a≤1000):(shS a).length≤20000:=by
 have h1:=Lib.itoa_length_le (shE a) (by omega) (by omega)
 have h3:=yO4 (shD a) (Lib.itoa (shE a));have h2:=xG7 (d:=shD a) (p:=(shD a).length - 1 - shE a);unfold shS;generalize shD a=D at *;generalize shE a=E at *;generalize Lib.itoa E=I at *;by_cases h:E < -5∨20<E
 ·rw[if_pos h];omega
 ·rw[if_neg h];omega
theorem yJ2 {a:Nat} {w:World} (hT:Tab32 w) (hI:Ie.Tab w) (h10:Tab10 w) (ok:ShOk a) (hd:0<(shD a).length) :
  Calls Tryz.prog 37 #[.float .f64 a] w fun r w'=>r=.returned (.string ⟨(shS a).toArray⟩)∧Bw w w':=by
 have hfin:=ok.fin;have hpos:=ok.pos;have hx:=ok.x;have hl:=zW ok;have hl2:(shD a).length≤36:=xW (zT7 _ _) hl;have hE : -1000≤shE a∧shE a≤1000:=by unfold shE;omega
 obtain⟨c1,c2,c3⟩:=zV0 (qG1 hfin);have hn:neg a=false:=by unfold neg;exact xL3 (by omega)
 have hlen:(shS a).length≤20000:=yL8 hl2 hE;have e:sgL (neg a) (shS a)=shS a:=by unfold sgL;rw[hn,if_neg (by decide)]
 rw[←e];refine qW1 a _ w ?_;intro W g1 hW b1;have kC:=fun V=>Ie.c9 a (by omega) V
 rw[c3] at kC;refine zX4 a _ _ (neg a) _ _ W c1 c2 hlen kC (qX2 Tryz.func61 (by kernel_rfl) (by kernel_rfl)) ?_
 refine yJ3 a a (shE a) (shD a) (shS a) g1 W b1 ?_ (by omega) (by omega) (fun V=>?_) ?_ ?_ ?_
 ·have q3:=zT (a:=a) (by omega)
  have h1:mag a≠0:=by unfold mag;omega
  rw[xL3 h1] at q3;have e9:(FloatKind.f64.format.order a 0 != some Ordering.eq) = !(FloatKind.f64.format.order a 0==some Ordering.eq):=rfl;rw[e9] at q3;simpa using q3
 ·have h1:mag a=a:=by unfold mag;omega
  have:=c159 a (by omega) V
  rw[h1] at this;exact this
 ·exact yK7 (hT.later hW) (Tab.later hI hW) ok
 ·intro hc V hV;unfold shS;rw[if_pos hc];exact yM5 (shD a) (Lib.itoa (shE a)) (shE a) V hd (by omega) (by have:=Lib.itoa_length_le (shE a) (by omega) (by omega);show(Lib.itoa (shE a)).length≤100;omega) (fun U hU=>Ditoa (by omega) (((h10.later hW).later hV).later hU))
 ·intro hc V hV;unfold shS;rw[if_neg hc];exact yM1 (by omega) (by omega) (knz V)
def rdA (s:List UInt8) (m:Int):Nat×Int :=
 if ¬ (1≤m∧m≤3) then(0,1)else if 1048576<s.length then(0,2)
 else if csD s = [105,110,102] then((if csS s<0 then 18442240474082181120 else 9218868437227405312),0)else if csD s = [110,97,110] then(9221120237041090561,0)
 else if psOk (csD s)=false then(0,3)else if 1100<(psD (csD s)).length then(0,2)
 else(rdFl (decide (csS s<0)) (psb (csD s)) (psD (csD s)) (psH (csD s)) (psX (csD s)) m,0)
theorem xN3 (E:List UInt8) : -6000≤exX E∧exX E≤6000:=by
 unfold exX;split
 ·have h:=yD9 (csD E) (csD E).length;have hsg:csS E=1∨csS E = -1:=by unfold csS;split <;> simp
  rcases hsg with h1|h1 <;> rw[h1] <;> omega
 ·omega
theorem yS5 (L:List UInt8) : -6000≤psX L∧psX L≤6000:=by
 unfold psX;split
 ·exact xN3 _
 ·omega
theorem yS4 (L:List UInt8):(psb L=((10:Nat):Int)∧True)∨(psb L=((16:Nat):Int)∧True):=by
 unfold psb;split
 ·exact .inr ⟨rfl,trivial⟩
 ·exact .inl ⟨rfl,trivial⟩
theorem zY5 {L:List UInt8} (h:psOk L=true):qZ8 (psD L) (psb L)=true:=by
 unfold psOk at h;rw[xC] at h;have h2:=h.2;unfold dgO at h2;rw[xC] at h2;exact h2.1
theorem zC7 (L:List UInt8):psH L≤(psD L).length:=by unfold psH psD;rw[xE0];omega
theorem xL {s:List UInt8} {m:Int} {w:World} (hT:Tab32 w) :
  Calls Tryz.prog 10 #[.string ⟨s.toArray⟩,.int .i64 m] w fun r w'=>r=.returned (.tuple #[.float .f64 (rdA s m).1,.int .i64 (rdA s m).2])∧Bw w w':=by
 unfold rdA;have k0:=xY3 m;by_cases hm:1≤m∧m≤3
 ·rw[if_neg (not_not_intro hm)];rw[xL4 hm] at k0;by_cases hL:1048576<s.length
  ·rw[if_pos hL];exact zR3 s m w hL k0
  ·rw[if_neg hL];have kC:=fun W=>zM3 s W (by omega)
   have hdl:=yZ4 s;have hsg:csS s=1∨csS s = -1:=by unfold csS;split <;> simp
   by_cases h1:csD s = [105,110,102]
   ·rw[if_pos h1];refine yJ6 s (csD s) m (csS s) _ w (by omega) k0 kC h1 (fun W=>?_)
    rcases hsg with e|e
    ·rw[e,if_neg (by decide)];exact yR8 W
    ·rw[e,if_pos (by decide)];exact yX W
   ·rw[if_neg h1];by_cases h2:csD s = [110,97,110]
    ·rw[if_pos h2];exact yJ5 s (csD s) m (csS s) _ w (by omega) k0 kC h2 (fun W=>Ie.c52 W)
    ·rw[if_neg h2];have g1:(csD s == [105,110,102])=false:=by rw[xC2];exact h1
     have g2:(csD s == [110,97,110])=false:=by rw[xC2];exact h2
     by_cases h3:psOk (csD s)=false
     ·rw[if_pos h3];refine zR4 s (csD s) m (csS s) w (by omega) k0 kC g1 g2 (fun W hW=>?_)
      refine(yT5 (csD s) W (by omega)).mono ?_
      rintro r w' ⟨b',D,h,x,rfl,-,hb⟩;exact⟨b',D,h,x,by rw[h3],hb⟩
     ·rw[if_neg h3];have h3':psOk (csD s)=true:=by simpa using h3
      have kS:∀ W,Calls Tryz.prog 26 #[.string ⟨(csD s).toArray⟩] W fun r w'=>r=.returned (.tuple #[.agg #[.int .i64 (psb (csD s)),.string ⟨(psD (csD s)).toArray⟩,.int .i64 (psH (csD s):Int),.int .i64 (psX (csD s))],.bool true])∧Bw W w':=fun W=>by
       refine(yT5 (csD s) W (by omega)).mono ?_
       rintro r w' ⟨b',D,h,x,rfl,hh,hb⟩;obtain⟨e1,e2,e3,e4⟩:=hh h3';exact⟨by rw[e1,e2,e3,e4,h3'],hb⟩
      by_cases h4:1100<(psD (csD s)).length
      ·rw[if_pos h4];exact zX6 s (csD s) (psD (csD s)) m (csS s) _ _ _ w (by omega) k0 kC g1 g2 (fun W _=>kS W) h4
      ·rw[if_neg h4];refine yM8 s (csD s) (psD (csD s)) m (csS s) _ _ _ w (by omega) k0 kC g1 g2 (fun W _=>kS W) _ (by omega) (fun W hW=>?_)
       have hdg:=zY5 h3';have hx:=yS5 (csD s);have hh:=zC7 (csD s);rcases yS4 (csD s)with ⟨e,-⟩|⟨e,-⟩
       ·rw[e] at hdg ⊢;exact zM0 (hT.later hW) (.inl rfl) hdg (by omega) (by omega) hx hm
       ·rw[e] at hdg ⊢;exact zM0 (hT.later hW) (.inr rfl) hdg (by omega) (by omega) hx hm
 ·rw[if_pos hm];rw[xL3 hm] at k0;exact zR2 s m w k0
theorem yY0 {x n:Nat} (h:2^n≤x):n+1≤bl x:=by
 rcases Nat.lt_or_ge n (bl x)with h1|h1
 ·exact h1
 ·have:=(qJ8 x n).1 h1
  omega
theorem yX9 {x:Nat} (h:x≠0):2^(bl x - 1)≤x:=by
 rcases Nat.lt_or_ge x (2^(bl x - 1))with h1|h1
 ·have h2:=(qJ8 x (bl x - 1)).2 h1;have h3:bl x=0:=by omega
  have h4:=(qJ8 x 0).1 (by omega)
  rw[xC7] at h4;omega
 ·exact h1
theorem yC0 {x y k:Nat} (hx:x≠0) (hy:y≠0) (hk:64+bl y≤bl x+k):64≤bl (x*2^k / y):=by
 have h1:=yX9 hx;have h2:y<2^bl y:=(qJ8 y (bl y)).1 (xL0 _);have h0:1≤bl x:=by
  rcases Nat.lt_or_ge 0 (bl x)with h|h
  ·exact h
  ·have h4:=(qJ8 x 0).1 (by omega)
   rw[xC7] at h4;omega
 refine yY0 (n:=63) ?_;rw[Nat.le_div_iff_mul_le (by omega)]
 have h3:2^63*y≤2^63*2^bl y:=xW2 _ (by omega)
 have h4:2^(bl x - 1)*2^k≤x*2^k:=xL7 _ h1;rw[←xC3] at h3 h4;have h5:(2:Nat)^(63+bl y)≤2^(bl x - 1+k):=xL6 (by decide) (by omega)
 omega
theorem xK5 (ex:Bool) (q:Nat) (h:Int) (hq:64≤bl q) (hh : -65535≤h):∃ (x:Nat) (e:Int),-65536≤e∧∀ (s:Bool) (m:Int),1≤m∧m≤3→tfF s ex q h m=sig s (bdy x e (wyN s m)):=by
 cases ex
 ·exact⟨2*q+1,h - 1,by omega,fun s m hm=>by rw[qF0 hq,qM3 hm]⟩
 ·exact⟨q,h,by omega,fun s m hm=>qM3 hm⟩
theorem xV5 {Z:Nat} {P U b c:Nat} (hZ:Z≠0) (hU:U≠0) (hZb:Z<2^b) (hUb:U<2^c) (hP:P+c≤60000):∃ (x:Nat) (e:Int),-65536≤e∧∀ (s:Bool) (m:Int),1≤m∧m≤3→rtF (un (if s then -(Z:Int) else(Z:Int)) P) (un (U:Int) 0) m=sig s (bdy x e (wyN s m)):=by
 have eU:un (U:Int) 0=(false,U / 2^tz U,(tz U:Int)):=by
  unfold un cn;rw[xC1,if_neg hU,xL3 (by omega)]
  simp
 have eZ:∀ s:Bool,un (if s then -(Z:Int) else(Z:Int)) P=(s,Z / 2^tz Z,(tz Z:Int) - (P:Int)):=by
  intro s;cases s
  ·rw[if_neg (by decide)]
   unfold un cn;rw[xC1,if_neg hZ,xL3 (by omega)]
   simp;omega
  ·rw[if_pos rfl];unfold un cn;rw[Int.natAbs_neg,xC1,if_neg hZ,xL4 (by omega)]
   simp;omega
 have sU:=(qX0 _ _ (xL0 _) hU).1;have sZ':=(qX0 _ _ (xL0 _) hZ).1;have hx:Z / 2^tz Z≠0:=by intro h9;rw[h9,Nat.mul_zero] at sZ';omega
 have hy:U / 2^tz U≠0:=by intro h9;rw[h9,Nat.mul_zero] at sU;omega
 have bU':bl U=bl (U / 2^tz U)+tz U:=by
  have:=zV9 (x:=U / 2^tz U) (k:=tz U) hy
  rw[xC4,sU] at this;exact this
 have hbU:bl U≤c:=(qJ8 U c).2 hUb;generalize U / 2^tz U=y at *;generalize Z / 2^tz Z=x at *;have hk:64+bl y≤bl x+(max 0 (64+(bl y:Int) - (bl x:Int))).toNat:=by omega
 obtain⟨X,e,h1,h2⟩:=xK5 (decide (x*2^(max 0 (64+(bl y:Int) - (bl x:Int))).toNat % y=0)) (x*2^(max 0 (64+(bl y:Int) - (bl x:Int))).toNat / y) ((tz Z:Int) - (P:Int) - (tz U:Int) - (max 0 (64+(bl y:Int) - (bl x:Int))).toNat) (yC0 hx hy hk) (by omega)
 refine⟨X,e,h1,fun s m hm=>?_⟩
 rw[eU,eZ s];unfold rtF rtK;rw[←h2 s m hm];simp
theorem zC0 {b:Int} {D:List UInt8} {h:Nat} {x:Int} (hb:b=10∨b=16) (hd:qZ8 D b=true) (hl:D.length≤1100) (hh:h≤1100) (hx : -6000≤x∧x≤6000):∃ (X:Nat) (e:Int),-65536≤e∧∀ (s:Bool) (m:Int),1≤m∧m≤3→rdFl s b D h x m=sig s (bdy X e (wyN s m)):=by
 obtain⟨o1,o2,o3,o4,o5⟩:=xG2 hb hh hx;unfold rdFl;have hN:dvP b.toNat D D.length<2^(4*D.length):=by
  rcases hb with rfl|rfl
  ·exact zI8 (.inl rfl) hd _ (xL0 _)
  ·exact zI8 (.inr rfl) hd _ (xL0 _)
 generalize dvP b.toNat D D.length=N at *;by_cases h0:N=0
 ·refine⟨0,0,by omega,fun s m hm=>?_⟩
  rw[if_pos h0];unfold bdy;rw[if_pos rfl]
 ·have hz:N*rO b h x≠0:=Nat.mul_ne_zero h0 (by omega)
  obtain⟨X,e,h1,h2⟩:=xV5 (Z:=N*rO b h x) (P:=rP b h x) (U:=rU b h x) (b:=4*D.length+dQ) (c:=dQ) hz (by omega) (zE5 hN o1) o2 (by rw[zK9];omega)
  refine⟨X,e,h1,fun s m hm=>?_⟩
  rw[if_neg h0,←h2 s m hm];congr 2
  cases s
  ·rw[if_neg (by decide),if_neg (by decide),xC8]
  ·rw[if_pos rfl,if_pos rfl,xC8,Int.neg_mul]
end Go.Proofs.YtbanebginnakhaaGreatDoor
namespace Go.Proofs.YtbanebginnakhaaGreatDoor
open Go.RowKit Go.Fl64
def dgF (c:Nat):Int:=if 48≤c∧c≤57 then(c:Int) - 48 else if 97≤c∧c≤102 then(c:Int) - 87 else if 65≤c∧c≤70 then(c:Int) - 55 else -1
theorem zJ2 (c:Nat) (w:World) (hc:c<256) :
  Calls Tryz.prog 90 #[.int .u8 c] w fun r w'=>r=.returned (.int .i64 (dgF c))∧w'=w:=by
 rcases(by omega:c≤47∨(48≤c∧c≤57)∨(58≤c∧c≤64)∨(65≤c∧c≤70)∨(71≤c∧c≤96)∨(97≤c∧c≤102)∨103≤c)with h|h|h|h|h|h|h
 ·have hr:dgF c = -1:=by unfold dgF;rw[if_neg (by omega),if_neg (by omega),if_neg (by omega)]
  have z48:¬ (48:Int)≤(c:Int):=by omega
  have z97:¬ (97:Int)≤(c:Int):=by omega
  have z65:¬ (65:Int)≤(c:Int):=by omega
  have z57:(c:Int)≤57:=by omega
  have z102:(c:Int)≤102:=by omega
  have z70:(c:Int)≤70:=by omega
  rw[hr];clear hr h hc
  go_enter Tryz.func90,Tryz.ntmps90
  go_wp2
  go_ret;exact⟨rfl,rfl⟩
 ·obtain⟨q,hq⟩:∃ q,c=48+q:=⟨c - 48,by omega⟩
  have hr:dgF c=(q:Int):=by unfold dgF;rw[if_pos (by omega)];omega
  have hw1:IntKind.u8.wrap ((c:Int) - 48)=(q:Int):=by rw[IntKind.wrap_u8];omega
  have hw2:IntKind.i64.wrap (q:Int)=(q:Int):=by rw[xW6];omega
  have hw3:IntKind.i64.wrap ((q:Int)+10)=(q:Int)+10:=by rw[xW6];omega
  have z48:(48:Int)≤(c:Int):=by omega
  have z97:¬ (97:Int)≤(c:Int):=by omega
  have z65:¬ (65:Int)≤(c:Int):=by omega
  have z57:(c:Int)≤57:=by omega
  have z102:(c:Int)≤102:=by omega
  have z70:(c:Int)≤70:=by omega
  rw[hr];clear hr h hc hq
  go_enter Tryz.func90,Tryz.ntmps90
  go_wp2
  go_ret;exact⟨rfl,rfl⟩
 ·have hr:dgF c = -1:=by unfold dgF;rw[if_neg (by omega),if_neg (by omega),if_neg (by omega)]
  have z48:(48:Int)≤(c:Int):=by omega
  have z97:¬ (97:Int)≤(c:Int):=by omega
  have z65:¬ (65:Int)≤(c:Int):=by omega
  have z57:¬ (c:Int)≤57:=by omega
  have z102:(c:Int)≤102:=by omega
  have z70:(c:Int)≤70:=by omega
  rw[hr];clear hr h hc
  go_enter Tryz.func90,Tryz.ntmps90
  go_wp2
  go_ret;exact⟨rfl,rfl⟩
 ·obtain⟨q,hq⟩:∃ q,c=65+q:=⟨c - 65,by omega⟩
  have hr:dgF c=(q:Int)+10:=by unfold dgF;rw[if_neg (by omega),if_neg (by omega),if_pos (by omega)];omega
  have hw1:IntKind.u8.wrap ((c:Int) - 65)=(q:Int):=by rw[IntKind.wrap_u8];omega
  have hw2:IntKind.i64.wrap (q:Int)=(q:Int):=by rw[xW6];omega
  have hw3:IntKind.i64.wrap ((q:Int)+10)=(q:Int)+10:=by rw[xW6];omega
  have z48:(48:Int)≤(c:Int):=by omega
  have z97:¬ (97:Int)≤(c:Int):=by omega
  have z65:(65:Int)≤(c:Int):=by omega
  have z57:¬ (c:Int)≤57:=by omega
  have z102:(c:Int)≤102:=by omega
  have z70:(c:Int)≤70:=by omega
  rw[hr];clear hr h hc hq
  go_enter Tryz.func90,Tryz.ntmps90
  go_wp2
  go_ret;exact⟨rfl,rfl⟩
 ·have hr:dgF c = -1:=by unfold dgF;rw[if_neg (by omega),if_neg (by omega),if_neg (by omega)]
  have z48:(48:Int)≤(c:Int):=by omega
  have z97:¬ (97:Int)≤(c:Int):=by omega
  have z65:(65:Int)≤(c:Int):=by omega
  have z57:¬ (c:Int)≤57:=by omega
  have z102:(c:Int)≤102:=by omega
  have z70:¬ (c:Int)≤70:=by omega
  rw[hr];clear hr h hc
  go_enter Tryz.func90,Tryz.ntmps90
  go_wp2
  go_ret;exact⟨rfl,rfl⟩
 ·obtain⟨q,hq⟩:∃ q,c=97+q:=⟨c - 97,by omega⟩
  have hr:dgF c=(q:Int)+10:=by unfold dgF;rw[if_neg (by omega),if_pos (by omega)];omega
  have hw1:IntKind.u8.wrap ((c:Int) - 97)=(q:Int):=by rw[IntKind.wrap_u8];omega
  have hw2:IntKind.i64.wrap (q:Int)=(q:Int):=by rw[xW6];omega
  have hw3:IntKind.i64.wrap ((q:Int)+10)=(q:Int)+10:=by rw[xW6];omega
  have z48:(48:Int)≤(c:Int):=by omega
  have z97:(97:Int)≤(c:Int):=by omega
  have z65:(65:Int)≤(c:Int):=by omega
  have z57:¬ (c:Int)≤57:=by omega
  have z102:(c:Int)≤102:=by omega
  have z70:¬ (c:Int)≤70:=by omega
  rw[hr];clear hr h hc hq
  go_enter Tryz.func90,Tryz.ntmps90
  go_wp2
  go_ret;exact⟨rfl,rfl⟩
 ·have hr:dgF c = -1:=by unfold dgF;rw[if_neg (by omega),if_neg (by omega),if_neg (by omega)]
  have z48:(48:Int)≤(c:Int):=by omega
  have z97:(97:Int)≤(c:Int):=by omega
  have z65:(65:Int)≤(c:Int):=by omega
  have z57:¬ (c:Int)≤57:=by omega
  have z102:¬ (c:Int)≤102:=by omega
  have z70:¬ (c:Int)≤70:=by omega
  rw[hr];clear hr h hc
  go_enter Tryz.func90,Tryz.ntmps90
  go_wp2
  go_ret;exact⟨rfl,rfl⟩
def bhN (n:Nat) (dot:Int):Int:=if dot<0 then 0 else n - dot
theorem zN2 (n:Nat) (d:Int) (w:World) (hn:n≤2000000) (hd : -1≤d∧d≤n) :
  Calls Tryz.prog 91 #[.int .i64 n,.int .i64 d] w fun r w'=>r=.returned (.int .i64 (bhN n d))∧w'=w:=by
 unfold bhN;have hw:IntKind.i64.wrap ((n:Int) - d)=(n:Int) - d:=by rw[xW6];omega
 by_cases h:d<0
 ·rw[if_pos h]
  go_enter Tryz.func91,Tryz.ntmps91
  go_wp2
  go_ret;exact⟨rfl,rfl⟩
 ·rw[if_neg h]
  go_enter Tryz.func91,Tryz.ntmps91
  go_wp2
  go_ret;exact⟨rfl,rfl⟩
def rdX (L:List UInt8) (a:Nat):Nat→Nat
 | 0=>0
 | k+1=>min (10*rdX L a k+(bL L (a+k) - 48)) 1000000000
theorem zC1 (L:List UInt8) (a k:Nat):rdX L a k≤1000000000:=by
 cases k with
 | zero=>exact xW5 _
 | succ k=>exact Nat.min_le_right _ _
theorem qA9 (L:List UInt8) (n p a e:Nat) (neg:Bool) (w:World) (hn:Hid (n=L.length)) (hL:n≤2000000) (hap:p≤n∧p≤a∧a≤p+1) (hae:a≤e) (hen:e≤n)
  (hcs:Hid ((p=n∧a=p∧neg=false)∨(p<n∧bL L p=45∧a=p+1∧neg=true)∨(p<n∧bL L p=43∧a=p+1∧neg=false)∨(p<n∧(bL L p≠45∧bL L p≠43)∧a=p∧neg=false)))
  (hd:Hid (∀ k,a≤k→k<e→48≤bL L k∧bL L k≤57)) (hx:Hid (e<n→bL L e<48∨57<bL L e)) :
  Calls Tryz.prog 54 #[.string ⟨L.toArray⟩,.int .i64 p] w fun r w'=>r=.returned (.tuple #[.int .i64 (if neg then -(rdX L a (e - a):Nat) else(rdX L a (e - a):Nat)),.int .i64 e,.bool (decide (a<e))])∧w'=w:=by
 obtain⟨R,hR⟩:∃ R:ByteArray,R=⟨L.toArray⟩:=⟨_,rfl⟩;have hRs:R.size=n:=by rw[hR,hn.out];rfl
 have hRg:∀ k (h:k<R.size),(R[k]'h).toNat=bL L k:=by subst hR;exact qU0 L
 have HR:Hid (R=⟨L.toArray⟩):=hR;rw[←hR];clear hR;have HRg:Hid (∀ k (h:k<R.size),(R[k]'h).toNat=bL L k):=hRg;clear hRg
 go_enter Tryz.func54,Tryz.ntmps54
 go_upto_region 1 with fail
 go_cut [7] from 10 to 19 (fun v wx=>v=.bool neg∧wx=w)
 case first =>
  rcases hcs.out with ⟨h1,h2,rfl⟩|⟨h1,h2,h3,rfl⟩|⟨h1,h2,h3,rfl⟩|⟨h1,h2,h3,rfl⟩
  ·have z0:¬ (p:Int)<(n:Int):=by omega
   clear h1 h2
   go_wp2_with fail
   go_meet
   exact⟨rfl,rfl⟩
  ·have z0:(p:Int)<(n:Int):=by omega
   have hp2:p<R.size:=by omega
   have hg0:=HRg.out p;rw[h2] at hg0;clear h1 h2 h3
   go_wp2_with fail
   go_meet
   exact⟨rfl,rfl⟩
  ·have z0:(p:Int)<(n:Int):=by omega
   have hp2:p<R.size:=by omega
   have hg0:=HRg.out p;rw[h2] at hg0;clear h1 h2 h3
   go_wp2_with fail
   go_meet
   exact⟨rfl,rfl⟩
  ·have z0:(p:Int)<(n:Int):=by omega
   have hp2:p<R.size:=by omega
   have hg0:=HRg.out p;obtain⟨c,hc⟩:∃ c,c=bL L p:=⟨_,rfl⟩;rw[←hc] at h2 hg0;have z1:¬ (c:Int)=45:=by omega
   have z2:¬ (c:Int)=43:=by omega
   clear hc h1 h2 h3
   go_wp2_with fail
   go_meet
   exact⟨by simp[z1,z2],rfl⟩
 case rest =>
 obtain⟨rfl,rfl⟩:=hcut;obtain⟨sg,hsg⟩:∃ sg:Bool,sg=decide (a=p+1):=⟨_,rfl⟩
 go_upto_region 2 with fail
 go_cut [35] from 20 to 34 (fun v wx=>v=.bool sg∧wx=wc)
 case first =>
  rcases hcs.out with ⟨h1,h2,rfl⟩|⟨h1,h2,h3,rfl⟩|⟨h1,h2,h3,rfl⟩|⟨h1,h2,h3,rfl⟩
  ·have hs9:sg=false:=by rw[hsg,h2];simp
   clear hsg;subst hs9;have z0:¬ (p:Int)<(n:Int):=by omega
   clear h1 h2
   go_wp2_with fail
   go_meet
   exact⟨rfl,rfl⟩
  ·have hs9:sg=true:=by rw[hsg,h3];simp
   clear hsg;subst hs9;have z0:(p:Int)<(n:Int):=by omega
   have hp2:p<R.size:=by omega
   have hg0:=HRg.out p;rw[h2] at hg0;clear h1 h2 h3
   go_wp2_with fail
   go_meet
   exact⟨rfl,rfl⟩
  ·have hs9:sg=true:=by rw[hsg,h3];simp
   clear hsg;subst hs9;have z0:(p:Int)<(n:Int):=by omega
   have hp2:p<R.size:=by omega
   have hg0:=HRg.out p;rw[h2] at hg0;clear h1 h2 h3
   go_wp2_with fail
   go_meet
   exact⟨rfl,rfl⟩
  ·have hs9:sg=false:=by rw[hsg,h3];simp
   clear hsg;subst hs9;have z0:(p:Int)<(n:Int):=by omega
   have hp2:p<R.size:=by omega
   have hg0:=HRg.out p;obtain⟨c,hc⟩:∃ c,c=bL L p:=⟨_,rfl⟩;rw[←hc] at h2 hg0;have z1:¬ (c:Int)=45:=by omega
   have z2:¬ (c:Int)=43:=by omega
   clear hc h1 h2 h3
   go_wp2_with fail
   go_meet
   exact⟨by simp[z1,z2],rfl⟩
 case rest =>
 obtain⟨rfl,rfl⟩:=hcut
 go_upto_if 35 with fail
 go_cut [1] from 36 to 37 (fun v wx=>v=.int .i64 (a:Nat)∧wx=wc)
 case first =>
  cases hq:decide (a=p+1)
  ·have h9:a=p:=by have:=of_decide_eq_false hq;omega
   rw[hq] at hsg;subst hsg;clear hq
   go_wp2_with fail
   go_meet
   exact⟨by rw[h9],rfl⟩
  ·have h9:a=p+1:=of_decide_eq_true hq;rw[hq] at hsg;subst hsg;have hwp:IntKind.i64.wrap ((p:Int)+1)=(a:Int):=by rw[xW6];omega
   clear hq h9
   go_wp2_with fail
   go_meet
   exact⟨rfl,rfl⟩
 case rest =>
 obtain⟨rfl,rfl⟩:=hcut;clear hsg hcs
 go_wp2_with fail
 go_loopw [1,9] (fun v x wr=>∃ i:Nat,a+i≤e∧v=.int .i64 ((a+i:Nat):Int)∧x=.int .i64 (rdX L a i:Nat)∧wr=wc) (fun v _ _=>n - (intOf v).toNat)
 case atStart=>exact⟨0,by omega,rfl,rfl,rfl⟩
 case round =>
  obtain⟨i,hi,rfl,rfl,rfl⟩:=hrel;obtain⟨E,hE⟩:∃ E,E=rdX L a i:=⟨_,rfl⟩;have hE9:E≤1000000000:=by rw[hE];exact zC1 _ _ _
  rw[←hE];obtain⟨k,hk⟩:∃ k,k=a+i:=⟨_,rfl⟩;rw[←hk] at hi ⊢;have hg2:=HRg.out k;by_cases hc:k<e
  ·have hii:(k:Int)<(n:Int):=by omega
   have hkR:k<R.size:=by omega
   obtain⟨c,hcc⟩:∃ c,c=bL L k:=⟨_,rfl⟩;have hcd:=hd.out k (by omega) hc
   rw[←hcc] at hcd hg2;have hwi:IntKind.i64.wrap ((k:Int)+1)=(k:Int)+1:=by rw[xW6];omega
   obtain⟨q,hq⟩:∃ q,c=48+q:=⟨c - 48,by omega⟩
   have hw1:IntKind.i64.wrap (10*(E:Int))=10*E:=by rw[xW6];omega
   have hw2:IntKind.u8.wrap ((c:Int) - 48)=(q:Int):=by rw[IntKind.wrap_u8];omega
   have hw3:IntKind.i64.wrap (q:Int)=(q:Int):=by rw[xW6];omega
   have hw4:IntKind.i64.wrap (10*(E:Int)+q)=10*E+q:=by rw[xW6];omega
   have z48:(48:Int)≤(c:Int):=by omega
   have z57:(c:Int)≤57:=by omega
   obtain⟨M,hM⟩:∃ M,M=rdX L a (i+1):=⟨_,rfl⟩;have hmin:min (10*(E:Int)+q) 1000000000=(M:Int):=by
    rw[hM];unfold rdX;rw[←hE,←hk,←hcc,hq];omega
   have HM:Hid (M=rdX L a (i+1)):=hM;have HK:Hid (k=a+i):=hk;have HQ:Hid (c=48+q):=hq;clear hM hE hcc hq hk hcd
   go_wp2;have hk:=HK.out;refine⟨⟨i+1,by omega,by congr 1;push_cast;omega,by rw[←HM.out],trivial⟩,by simp[intOf];omega⟩
  ·obtain rfl:k=e:=by omega
   have HE:Hid (E=rdX L a (k - a)):=by rw[hE,hk];congr 1;omega
   have hwn:IntKind.i64.wrap (-(E:Int)) = -E:=by rw[xW6];omega
   have hdc:decide ((a:Int)<(k:Int))=decide (a<k):=by simp
   have hxx:=hx.out;clear hE hk;by_cases hkn:k<n
   ·have hii:(k:Int)<(n:Int):=by omega
    have hkR:k<R.size:=by omega
    obtain⟨c,hcc⟩:∃ c,c=bL L k:=⟨_,rfl⟩;have hcd:=hxx hkn;rw[←hcc] at hcd hg2;have HX:Hid (c=bL L k):=hcc;clear hcc hxx;rcases hcd with h48|h57
    ·have z48:¬ (48:Int)≤(c:Int):=by omega
     clear h48;cases neg <;> (go_wp2;refine xW9 (results_tmp3 rfl _ _ _) rfl ?_;rw[←HE.out];exact⟨by first|rfl|simp,rfl⟩)
    ·have z48:(48:Int)≤(c:Int):=by omega
     have z57:¬ (c:Int)≤57:=by omega
     clear h57;cases neg <;> (go_wp2;refine xW9 (results_tmp3 rfl _ _ _) rfl ?_;rw[←HE.out];exact⟨by first|rfl|simp,rfl⟩)
   ·have hii:¬ (k:Int)<(n:Int):=by omega
    cases neg <;> (go_wp2;refine xW9 (results_tmp3 rfl _ _ _) rfl ?_;rw[←HE.out];exact⟨by first|rfl|simp,rfl⟩)
theorem yZ0 (m:Int) (w:World) :
  Calls Tryz.prog 29 #[.int .i64 m] w fun r w'=>r=.returned (.bool (decide (1≤m∧m≤3)))∧w'=w:=by
 by_cases h1:1≤m
 ·by_cases h3:m≤3
  ·rw[xL4 ⟨h1,h3⟩]
   go_enter Tryz.func29,Tryz.ntmps29
   go_wp2
   go_ret;exact⟨rfl,rfl⟩
  ·rw[xL3 (fun h=>h3 h.2)]
   go_enter Tryz.func29,Tryz.ntmps29
   go_wp2
   go_ret;exact⟨rfl,rfl⟩
 ·rw[xL3 (fun h=>h1 h.1)]
  go_enter Tryz.func29,Tryz.ntmps29
  go_wp2
  go_ret;exact⟨rfl,rfl⟩
theorem xM7 (b:Bool) (w:World) :
  Calls Tryz.prog 55 #[.bool b] w fun r w'=>r=.returned (.int .i64 (if b then 1 else 0))∧w'=w:=by
 cases b
 ·go_enter Tryz.func55,Tryz.ntmps55
  go_wp2
  go_ret;exact⟨rfl,rfl⟩
 ·go_enter Tryz.func55,Tryz.ntmps55
  go_wp2
  go_ret;exact⟨rfl,rfl⟩
end Go.Proofs.YtbanebginnakhaaGreatDoor
namespace Go.Proofs.YtbanebginnakhaaGreatDoor
open Go Go.RowKit Go.Fl64
end Go.Proofs.YtbanebginnakhaaGreatDoor
