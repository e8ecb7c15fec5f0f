/- Own work: contracts of the program's functions, part 18: DCX DCY DD8 DD9 DDA DDB DD3 DDC DDD DDE DDF DDG DDH DDI DRA DRB DRC DRD DRE DSB. -/
import Derived.Test.YtkcmhaknalomjaaGreatDoorA15
import Derived.Test.YtkcmhaknalomjaaGreatDoorA17
import Derived.Test.YtkcmhaknalomjaaGreatDoorA12
import Derived.Test.YtkcmhaknalomjaaGreatDoorA13
import Derived.Test.YtkcmhaknalomjaaGreatDoorA10

set_option maxHeartbeats 16000000
set_option maxRecDepth 200000
set_option linter.unusedVariables false
set_option linter.unusedSimpArgs false
namespace Go.Proofs.YtkcmhaknalomjaaGreatDoor
open Go.RowKit Go.Fl64
theorem yM2 {Q:Exit→Act→World→Prop} {o:Oper} {K:Act→World→Prop} {a:Act} {w:World} {s:Tmp} {g:Nat} {a0 a1 a2 a3 a4 a5:Value} (hop:o.op=.load 96 (.tmp s)) (hs:a.tmps[s]?=some (.pointer (some ⟨g,0,none⟩))) (hrun:(Instr.loadAt 96 (.pointer (some ⟨g,0,none⟩))).run Tryz.prog w=.ok (.agg #[a0,a1,a2,a3,a4,a5]) w) (h:K (a.put o.dst (.agg #[a0,a1,a2,a3,a4,a5])) w):o.wp Tryz.prog a w K Q :=
 qX3 (w':=w) (by simp[execOp,hop,qZ1 hs,hrun]) h
theorem zE6 (f fp fu:Nat) (s1:Bool) (ao1:Option Addr) (n1 cp1:Nat) (e1:Int) (s2:Bool) (ao2:Option Addr) (n2 cp2:Nat) (e2:Int) (t1 t2 ta tp tq tl tu tv th tn tm:Bool×Nat×Int) (b1 b2 r1 r2:Bool) (N M LS MS:Nat) (w:World) (hLS:Hid (LS=if b1&&r1 then N else N+1)) (hMS:Hid (MS=if b2 && !r2 then M - 1 else M)) (h1:PN w (.agg #[.bool s1,.slice ao1 n1 cp1,.int .i64 e1]) t1) (h2:PN w (.agg #[.bool s2,.slice ao2 n2 cp2,.int .i64 e2]) t2) (hN:N<9223372036854775808) (hM:M<9223372036854775808) (hM0:Hid (0<M))
  (k1:Hid (∀ W,Bw w W→Calls Tryz.prog 43 #[.float .f64 f] W fun r w'=>OutA W ta r w'))
  (k2:Hid (∀ W,Calls Tryz.prog 207 #[.float .f64 f] W fun r w'=>r=.returned (.float .f64 fp)∧Bw W w'))
  (k3:Hid (∀ W,Bw w W→Calls Tryz.prog 43 #[.float .f64 fp] W fun r w'=>OutA W tp r w'))
  (k4:Hid (∀ W X Y,Bw w W→PN W X tp→PN W Y ta→Calls Tryz.prog 107 #[X,Y] W fun r w'=>OutA W tq r w'))
  (k5:Hid (∀ W X,Bw w W→PN W X tq→Calls Tryz.prog 153 #[X,.int .i64 (-1)] W fun r w'=>OutA W tl r w'))
  (k6:Hid (∀ W,Calls Tryz.prog 208 #[.float .f64 f] W fun r w'=>r=.returned (.float .f64 fu)∧Bw W w'))
  (k7:Hid (∀ W,Bw w W→Calls Tryz.prog 43 #[.float .f64 fu] W fun r w'=>OutA W tu r w'))
  (k8:Hid (∀ W X,Bw w W→PN W X tu→Calls Tryz.prog 153 #[X,.int .i64 (-1)] W fun r w'=>OutA W tv r w'))
  (k9:Hid (∀ W X Y,Bw w W→PN W X ta→PN W Y tv→Calls Tryz.prog 107 #[X,Y] W fun r w'=>OutA W th r w'))
  (kA:Hid (∀ W X,Bw w W→PN W (.agg #[.bool s1,.slice ao1 n1 cp1,.int .i64 e1]) t1→PN W (.agg #[.bool s2,.slice ao2 n2 cp2,.int .i64 e2]) t2→PN W X tl→Calls Tryz.prog 105 #[.agg #[.bool s1,.slice ao1 n1 cp1,.int .i64 e1,.bool s2,.slice ao2 n2 cp2,.int .i64 e2],X] W fun r w'=>zQ1 W tn b1 r w'))
  (kB:Hid (∀ W X,Bw w W→PN W X tn→Calls Tryz.prog 102 #[X] W fun r w'=>r=.returned (.int .u64 (N:Nat))∧Bw W w'))
  (kC:Hid (b1=true→∀ W X,Bw w W→PN W X tl→Calls Tryz.prog 209 #[X,.float .f64 f] W fun r w'=>r=.returned (.bool r1)∧Bw W w'))
  (kD:Hid (∀ W X,Bw w W→PN W (.agg #[.bool s1,.slice ao1 n1 cp1,.int .i64 e1]) t1→PN W (.agg #[.bool s2,.slice ao2 n2 cp2,.int .i64 e2]) t2→PN W X th→Calls Tryz.prog 105 #[.agg #[.bool s1,.slice ao1 n1 cp1,.int .i64 e1,.bool s2,.slice ao2 n2 cp2,.int .i64 e2],X] W fun r w'=>zQ1 W tm b2 r w'))
  (kE:Hid (∀ W X,Bw w W→PN W X tm→Calls Tryz.prog 102 #[X] W fun r w'=>r=.returned (.int .u64 (M:Nat))∧Bw W w'))
  (kF:Hid (b2=true→∀ W X,Bw w W→PN W X th→Calls Tryz.prog 209 #[X,.float .f64 f] W fun r w'=>r=.returned (.bool r2)∧Bw W w')) :
  Calls Tryz.prog 152 #[.float .f64 f,.agg #[.bool s1,.slice ao1 n1 cp1,.int .i64 e1,.bool s2,.slice ao2 n2 cp2,.int .i64 e2]] w fun r w'=>r=.returned (.tuple #[.int .u64 (LS:Nat),.int .u64 (MS:Nat)])∧Bw w w':=by
 obtain⟨W,hW⟩:∃ W,W=w.alloc (.cells #[.bool s1,.slice ao1 n1 cp1,.int .i64 e1,.bool s2,.slice ao2 n2 cp2,.int .i64 e2] 96):=⟨_,rfl⟩;have H0:Hid (W.heap[w.heap.size]?=some (.cells #[.bool s1,.slice ao1 n1 cp1,.int .i64 e1,.bool s2,.slice ao2 n2 cp2,.int .i64 e2] 96 (0,0))∧PN W (.agg #[.bool s1,.slice ao1 n1 cp1,.int .i64 e1]) t1∧PN W (.agg #[.bool s2,.slice ao2 n2 cp2,.int .i64 e2]) t2∧Bw w W):=(by
  have hb:Bw w W:=by rw[hW];exact(xV9 _ _).alloc (xV8 _) _
  exact⟨by rw[hW];exact xG5 _ _,h1.later hb,h2.later hb,hb⟩:_∧_)
 have kk:=k1.out W H0.out.2.2.2;clear k1 h1 h2
 go_enter Tryz.func152,Tryz.ntmps152
 go_upto_region 1 with fail;rw[←hW];clear hW
 go_wp2_with fail;refine kk.mono ?_;rintro r w1 ⟨s3,ao3,n3,cp3,e3,rfl,hA,hb1⟩;clear kk;obtain⟨W1,hW1⟩:∃ W1,W1=w1.alloc (.cells #[.bool s3,.slice ao3 n3 cp3,.int .i64 e3] 65):=⟨_,rfl⟩;have hbV:Bw w1 W1:=by rw[hW1];exact(xV9 _ _).alloc (xV8 _) _
 have n6:W1.heap[w1.heap.size]?=some (.cells #[.bool s3,.slice ao3 n3 cp3,.int .i64 e3] 65 (0,0)):=by rw[hW1];exact xG5 _ _
 have hb01:Bw W W1:=hb1.trans (hbV.mono hb1.size)
 go_upto_region 2 with fail;rw[←hW1];clear hW1;have hA':=hA.later hbV;clear hbV hA;generalize w1.heap.size=gqA at *;have H1:Hid ((W1.heap[w.heap.size]?=some (.cells #[.bool s1,.slice ao1 n1 cp1,.int .i64 e1,.bool s2,.slice ao2 n2 cp2,.int .i64 e2] 96 (0,0))∧PN W1 (.agg #[.bool s1,.slice ao1 n1 cp1,.int .i64 e1]) t1∧PN W1 (.agg #[.bool s2,.slice ao2 n2 cp2,.int .i64 e2]) t2∧Bw w W1)∧PBx W1 gqA s3 ao3 n3 cp3 e3 ta):=⟨⟨qQ H0.out.1 hb01 (qQ6 H0.out.1),H0.out.2.1.later hb01,H0.out.2.2.1.later hb01,H0.out.2.2.2.trans (hb01.mono H0.out.2.2.2.size)⟩,⟨n6,hA'⟩⟩;clear H0 n6 hA' hb1 hb01;obtain⟨mS,m1⟩:=H1.out;have hBW:=mS.2.2.2;refine qF7 qZ7 [0,1,2,3,4,5] [6] [7] [16,17,18,19,20,21] [7] [[],[0],[1],[],[2,3],[4]] [5] 65 #[.bool false,.slice none 0 0,.int .i64 0] W1 _ [isV (.float .f64 f),isV (.float .f64 fp),isP (tp),isV (.agg #[.bool s3,.slice ao3 n3 cp3,.int .i64 e3]),isP (tq),isP (tl)] (by kernel_rfl) ⟨qQ3 _,qQ3 _,qZ9 _,qQ3 _,qZ9 _,qZ9 _,trivial⟩ ⟨fun _ _ _ _ _ h=>h,fun _ _ _ _ _ h=>h,qK3 _,fun _ _ _ _ _ h=>h,qK3 _,qK3 _,trivial⟩ (by show ∀ s ∈ [16,17,18,19,20,21] ++ [7],s<65;decide) ?_ ?_ ?_ qA2 Tryz.info65 ?_ ?_
 ·intro k' hk U u h;obtain rfl:k'=0:=Nat.lt_one_iff.1 hk;obtain⟨ao,cap,rfl,-⟩:=(show PN U u (tl)from h);exact⟨_,rfl,rfl,one3 rfl rfl⟩
 ·intro j hj o ho act U hb hoth hdep;have hj':j<6:=hj;have hbU:Bw w U:=hBW.trans (hb.mono hBW.size);have t0':act.tmps[(0:Nat)]?=some (Value.float .f64 f):=(hoth 0 (by decide)).trans rfl
  have t6':act.tmps[(6:Nat)]?=some (Value.pointer (some ⟨gqA,0,none⟩)):=(hoth 6 (by decide)).trans rfl
  have d6:=(qY7 (qQ m1.1 hb (qQ6 m1.1))).1;rcases(by omega:j=0∨j=1∨j=2∨j=3∨j=4∨j=5)with rfl|rfl|rfl|rfl|rfl|rfl
  ·obtain rfl:=xU ho;exact .inl ⟨rfl,qX5 rfl t0' ⟨_,rfl,rfl,xV9 _ _⟩⟩
  ·obtain rfl:=xU ho;have y0:act.tmps[(16:Nat)]?=_:=dV (hdep 0 (by simp[dL])) rfl
   refine .inl ⟨rfl,qZ rfl (qZ4 Tryz.func207 (by kernel_rfl) (by kernel_rfl)) (qF1 y0) ?_⟩
   refine(k2.out U).mono ?_
   rintro r w' ⟨rfl,hb'⟩;exact⟨_,rfl,_,rfl,rfl,hb'⟩
  ·obtain rfl:=xU ho;have y1:act.tmps[(17:Nat)]?=_:=dV (hdep 1 (by simp[dL])) rfl
   refine .inl ⟨rfl,qZ rfl (qZ4 Tryz.func43 (by kernel_rfl) (by kernel_rfl)) (qF1 y1) ?_⟩
   refine(k3.out U hbU).mono ?_
   rintro r w' ⟨_,_,_,_,_,rfl,hA,hb'⟩;exact⟨_,rfl,_,rfl,hA,hb'⟩
  ·obtain rfl:=xU ho;exact .inl ⟨rfl,qY6 (f:=0) rfl t6' d6.1 d6.2.1 d6.2.2 ⟨_,rfl,rfl,xV9 _ _⟩⟩
  ·obtain rfl:=xU ho;obtain⟨u2,y2a,v2⟩:=hdep 2 (by simp[dL])
   have y2:act.tmps[(18:Nat)]?=_:=y2a;have y3:act.tmps[(19:Nat)]?=_:=dV (hdep 3 (by simp[dL])) rfl
   refine .inl ⟨rfl,qZ rfl (qZ4 Tryz.func107 (by kernel_rfl) (by kernel_rfl)) (map2 y2 y3) ?_⟩
   refine(k4.out U _ _ hbU v2 (m1.2.later hb)).mono ?_
   rintro r w' ⟨_,_,_,_,_,rfl,hA,hb'⟩;exact⟨_,rfl,_,rfl,hA,hb'⟩
  ·obtain rfl:=xU ho;obtain⟨u4,y4a,v4⟩:=hdep 4 (by simp[dL])
   have y4:act.tmps[(20:Nat)]?=_:=y4a;refine .inl ⟨rfl,qZ rfl (qZ4 Tryz.func153 (by kernel_rfl) (by kernel_rfl)) (zR y4) ?_⟩
   refine(k5.out U _ hbU v4).mono ?_
   rintro r w' ⟨_,_,_,_,_,rfl,hA,hb'⟩;exact⟨_,rfl,_,rfl,hA,hb'⟩
 ·intro k' hk;obtain rfl:k'=0:=Nat.lt_one_iff.1 hk;exact⟨_,rfl,rfl⟩
 ·intro k' hk;obtain rfl:k'=0:=Nat.lt_one_iff.1 hk;exact⟨_,rfl,rfl⟩
 ·intro u g W3 hb3 hu hg hap;obtain⟨g0,cs0,q0,z0⟩:=hg 0 (by decide)
  have q7:PN W3 (u 5) (tl):=hu 5 (by decide)
  have q0':u 5=.agg cs0:=q0;rw[q0'] at q7;obtain⟨s4,ao4,n4,cp4,e4,h5⟩:=q7.shape1;obtain rfl:=Value.agg.inj h5;obtain⟨gqL,hgS⟩:∃ x,x=g 0:=⟨_,rfl⟩;rw[←hgS] at z0 g0;have H3:Hid ((W3.heap[w.heap.size]?=some (.cells #[.bool s1,.slice ao1 n1 cp1,.int .i64 e1,.bool s2,.slice ao2 n2 cp2,.int .i64 e2] 96 (0,0))∧PN W3 (.agg #[.bool s1,.slice ao1 n1 cp1,.int .i64 e1]) t1∧PN W3 (.agg #[.bool s2,.slice ao2 n2 cp2,.int .i64 e2]) t2∧Bw w W3)∧PBx W3 gqA s3 ao3 n3 cp3 e3 ta∧PBx W3 gqL s4 ao4 n4 cp4 e4 tl):=⟨⟨qQ mS.1 hb3 (qQ6 mS.1),mS.2.1.later hb3,mS.2.2.1.later hb3,mS.2.2.2.trans (hb3.mono mS.2.2.2.size)⟩,m1.later hb3,⟨z0,q7⟩⟩;clear hu hg hap hb3 m1 mS hBW H1 q0 q0' z0 g0 q7 h5 k2 k3 k4 k5;simp only[putL,show List.range 6 = [0,1,2,3,4,5] from rfl,show List.range 1 = [0] from rfl,List.length_cons,List.length_nil,List.getD_cons_zero,List.getD_cons_succ,List.map_cons,List.map_nil,List.cons_append,List.nil_append,List.foldl_cons,List.foldl_nil,Nat.reduceLT,Nat.reduceMod,Nat.reduceDiv,Nat.reduceMul,Nat.reduceAdd,Nat.reduceEqDiff,reduceIte,Nat.one_ne_zero,Act.put,List.setIfInBounds_toArray,List.set_cons_zero,List.set_cons_succ];rw[←hgS];clear hgS
  go_upto_region 3 with fail;obtain⟨mS,m1,m2⟩:=H3.out;have hBW:=mS.2.2.2;refine qF7 qZ7 [0,1,2,3,4,5] [6] [7] [22,23,24,25,26,27] [8] [[],[],[1],[2],[3],[0,4]] [5] 65 #[.bool false,.slice none 0 0,.int .i64 0] W3 _ [isV (.agg #[.bool s3,.slice ao3 n3 cp3,.int .i64 e3]),isV (.float .f64 f),isV (.float .f64 fu),isP (tu),isP (tv),isP (th)] (by kernel_rfl) ⟨qQ3 _,qQ3 _,qQ3 _,qZ9 _,qZ9 _,qZ9 _,trivial⟩ ⟨fun _ _ _ _ _ h=>h,fun _ _ _ _ _ h=>h,fun _ _ _ _ _ h=>h,qK3 _,qK3 _,qK3 _,trivial⟩ (by show ∀ s ∈ [22,23,24,25,26,27] ++ [8],s<65;decide) ?_ ?_ ?_ qA2 Tryz.info65 ?_ ?_
  ·intro k' hk U u h;obtain rfl:k'=0:=Nat.lt_one_iff.1 hk;obtain⟨ao,cap,rfl,-⟩:=(show PN U u (th)from h);exact⟨_,rfl,rfl,one3 rfl rfl⟩
  ·intro j hj o ho act U hb hoth hdep;have hj':j<6:=hj;have hbU:Bw w U:=hBW.trans (hb.mono hBW.size);have t0':act.tmps[(0:Nat)]?=some (Value.float .f64 f):=(hoth 0 (by decide)).trans rfl
   have t6':act.tmps[(6:Nat)]?=some (Value.pointer (some ⟨gqA,0,none⟩)):=(hoth 6 (by decide)).trans rfl
   have d6:=(qY7 (qQ m1.1 hb (qQ6 m1.1))).1;rcases(by omega:j=0∨j=1∨j=2∨j=3∨j=4∨j=5)with rfl|rfl|rfl|rfl|rfl|rfl
   ·obtain rfl:=xU ho;exact .inl ⟨rfl,qY6 (f:=0) rfl t6' d6.1 d6.2.1 d6.2.2 ⟨_,rfl,rfl,xV9 _ _⟩⟩
   ·obtain rfl:=xU ho;exact .inl ⟨rfl,qX5 rfl t0' ⟨_,rfl,rfl,xV9 _ _⟩⟩
   ·obtain rfl:=xU ho;have y1:act.tmps[(23:Nat)]?=_:=dV (hdep 1 (by simp[dL])) rfl
    refine .inl ⟨rfl,qZ rfl (qZ4 Tryz.func208 (by kernel_rfl) (by kernel_rfl)) (qF1 y1) ?_⟩
    refine(k6.out U).mono ?_
    rintro r w' ⟨rfl,hb'⟩;exact⟨_,rfl,_,rfl,rfl,hb'⟩
   ·obtain rfl:=xU ho;have y2:act.tmps[(24:Nat)]?=_:=dV (hdep 2 (by simp[dL])) rfl
    refine .inl ⟨rfl,qZ rfl (qZ4 Tryz.func43 (by kernel_rfl) (by kernel_rfl)) (qF1 y2) ?_⟩
    refine(k7.out U hbU).mono ?_
    rintro r w' ⟨_,_,_,_,_,rfl,hA,hb'⟩;exact⟨_,rfl,_,rfl,hA,hb'⟩
   ·obtain rfl:=xU ho;obtain⟨u3,y3a,v3⟩:=hdep 3 (by simp[dL])
    have y3:act.tmps[(25:Nat)]?=_:=y3a;refine .inl ⟨rfl,qZ rfl (qZ4 Tryz.func153 (by kernel_rfl) (by kernel_rfl)) (zR y3) ?_⟩
    refine(k8.out U _ hbU v3).mono ?_
    rintro r w' ⟨_,_,_,_,_,rfl,hA,hb'⟩;exact⟨_,rfl,_,rfl,hA,hb'⟩
   ·obtain rfl:=xU ho;have y0:act.tmps[(22:Nat)]?=_:=dV (hdep 0 (by simp[dL])) rfl
    obtain⟨u4,y4a,v4⟩:=hdep 4 (by simp[dL])
    have y4:act.tmps[(26:Nat)]?=_:=y4a;refine .inl ⟨rfl,qZ rfl (qZ4 Tryz.func107 (by kernel_rfl) (by kernel_rfl)) (map2 y0 y4) ?_⟩
    refine(k9.out U _ _ hbU (m1.2.later hb) v4).mono ?_
    rintro r w' ⟨_,_,_,_,_,rfl,hA,hb'⟩;exact⟨_,rfl,_,rfl,hA,hb'⟩
  ·intro k' hk;obtain rfl:k'=0:=Nat.lt_one_iff.1 hk;exact⟨_,rfl,rfl⟩
  ·intro k' hk;obtain rfl:k'=0:=Nat.lt_one_iff.1 hk;exact⟨_,rfl,rfl⟩
  ·intro u g W4 hb3 hu hg hap;obtain⟨g0,cs0,q0,z0⟩:=hg 0 (by decide)
   have q7:PN W4 (u 5) (th):=hu 5 (by decide)
   have q0':u 5=.agg cs0:=q0;rw[q0'] at q7;obtain⟨s5,ao5,n5,cp5,e5,h5⟩:=q7.shape1;obtain rfl:=Value.agg.inj h5;obtain⟨gqH,hgS⟩:∃ x,x=g 0:=⟨_,rfl⟩;rw[←hgS] at z0 g0;have H4:Hid ((W4.heap[w.heap.size]?=some (.cells #[.bool s1,.slice ao1 n1 cp1,.int .i64 e1,.bool s2,.slice ao2 n2 cp2,.int .i64 e2] 96 (0,0))∧PN W4 (.agg #[.bool s1,.slice ao1 n1 cp1,.int .i64 e1]) t1∧PN W4 (.agg #[.bool s2,.slice ao2 n2 cp2,.int .i64 e2]) t2∧Bw w W4)∧PBx W4 gqL s4 ao4 n4 cp4 e4 tl∧PBx W4 gqH s5 ao5 n5 cp5 e5 th):=⟨⟨qQ mS.1 hb3 (qQ6 mS.1),mS.2.1.later hb3,mS.2.2.1.later hb3,mS.2.2.2.trans (hb3.mono mS.2.2.2.size)⟩,m2.later hb3,⟨z0,q7⟩⟩;clear hu hg hap hb3 m1 m2 mS hBW H3 q0 q0' z0 g0 q7 h5 k6 k7 k8 k9;simp only[putL,show List.range 6 = [0,1,2,3,4,5] from rfl,show List.range 1 = [0] from rfl,List.length_cons,List.length_nil,List.getD_cons_zero,List.getD_cons_succ,List.map_cons,List.map_nil,List.cons_append,List.nil_append,List.foldl_cons,List.foldl_nil,Nat.reduceLT,Nat.reduceMod,Nat.reduceDiv,Nat.reduceMul,Nat.reduceAdd,Nat.reduceEqDiff,reduceIte,Nat.one_ne_zero,Act.put,List.setIfInBounds_toArray,List.set_cons_zero,List.set_cons_succ];rw[←hgS];clear hgS;obtain⟨c0,c1,c2,c3,c4,c5⟩:=(qJ7 H4.out.1.1).1;obtain⟨d0,d1,d2⟩:=(qY7 H4.out.2.1.1).1;have kk:=kA.out W4 _ H4.out.1.2.2.2 H4.out.1.2.1 H4.out.1.2.2.1 H4.out.2.1.2;clear kA
   go_wp2_with fail;refine kk.mono ?_;rintro r w5 ⟨s6,ao6,n6,cp6,e6,rfl,hA,hb5⟩;clear kk c0 c1 c2 c3 c4 c5 d0 d1 d2;obtain⟨W5,hW5⟩:∃ W5,W5=w5.alloc (.cells #[.bool s6,.slice ao6 n6 cp6,.int .i64 e6] 65):=⟨_,rfl⟩;have hbV:Bw w5 W5:=by rw[hW5];exact(xV9 _ _).alloc (xV8 _) _
   have n6:W5.heap[w5.heap.size]?=some (.cells #[.bool s6,.slice ao6 n6 cp6,.int .i64 e6] 65 (0,0)):=by rw[hW5];exact xG5 _ _
   have hb45:Bw W4 W5:=hb5.trans (hbV.mono hb5.size)
   go_upto_region 5 with fail;rw[←hW5];clear hW5;have hA':=hA.later hbV;clear hbV hA hb5;generalize w5.heap.size=gqN at *;have H5:Hid ((W5.heap[w.heap.size]?=some (.cells #[.bool s1,.slice ao1 n1 cp1,.int .i64 e1,.bool s2,.slice ao2 n2 cp2,.int .i64 e2] 96 (0,0))∧PN W5 (.agg #[.bool s1,.slice ao1 n1 cp1,.int .i64 e1]) t1∧PN W5 (.agg #[.bool s2,.slice ao2 n2 cp2,.int .i64 e2]) t2∧Bw w W5)∧PBx W5 gqL s4 ao4 n4 cp4 e4 tl∧PBx W5 gqH s5 ao5 n5 cp5 e5 th):=⟨⟨qQ H4.out.1.1 hb45 (qQ6 H4.out.1.1),H4.out.1.2.1.later hb45,H4.out.1.2.2.1.later hb45,H4.out.1.2.2.2.trans (hb45.mono H4.out.1.2.2.2.size)⟩,H4.out.2.1.later hb45,H4.out.2.2.later hb45⟩;obtain⟨⟨d0,d1,d2⟩,-⟩:=qQ1 n6;have kk:=kB.out W5 _ H5.out.1.2.2.2 hA';clear kB H4 hb45 n6 hA'
   go_wp2_with fail;refine kk.mono ?_;rintro r w6 ⟨rfl,hb6⟩;have H6:Hid ((w6.heap[w.heap.size]?=some (.cells #[.bool s1,.slice ao1 n1 cp1,.int .i64 e1,.bool s2,.slice ao2 n2 cp2,.int .i64 e2] 96 (0,0))∧PN w6 (.agg #[.bool s1,.slice ao1 n1 cp1,.int .i64 e1]) t1∧PN w6 (.agg #[.bool s2,.slice ao2 n2 cp2,.int .i64 e2]) t2∧Bw w w6)∧PBx w6 gqL s4 ao4 n4 cp4 e4 tl∧PBx w6 gqH s5 ao5 n5 cp5 e5 th):=⟨⟨qQ H5.out.1.1 hb6 (qQ6 H5.out.1.1),H5.out.1.2.1.later hb6,H5.out.1.2.2.1.later hb6,H5.out.1.2.2.2.trans (hb6.mono H5.out.1.2.2.2.size)⟩,H5.out.2.1.later hb6,H5.out.2.2.later hb6⟩;clear kk d0 d1 d2 hb6 H5;have hwN:IntKind.u64.wrap ((N:Int)+1)=(N:Int)+1:=by rw[xG4];omega
   go_upto_region 6 with fail
   go_cut [43] from 34 to 42 (fun v wx=>v=.bool (!(b1&&r1))∧Hid ((wx.heap[w.heap.size]?=some (.cells #[.bool s1,.slice ao1 n1 cp1,.int .i64 e1,.bool s2,.slice ao2 n2 cp2,.int .i64 e2] 96 (0,0))∧PN wx (.agg #[.bool s1,.slice ao1 n1 cp1,.int .i64 e1]) t1∧PN wx (.agg #[.bool s2,.slice ao2 n2 cp2,.int .i64 e2]) t2∧Bw w wx)∧PBx wx gqL s4 ao4 n4 cp4 e4 tl∧PBx wx gqH s5 ao5 n5 cp5 e5 th))
   case first =>
    cases b1
    ·clear kC
     go_wp2
     go_meet
     exact⟨rfl,H6⟩
    ·have kk:=kC.out rfl w6 _ H6.out.1.2.2.2 H6.out.2.1.2;obtain⟨⟨d0,d1,d2⟩,-⟩:=qQ1 H6.out.2.1.1;clear kC
     go_wp2_with fail;refine kk.mono ?_;rintro r w7 ⟨rfl,hb7⟩;have H7:Hid ((w7.heap[w.heap.size]?=some (.cells #[.bool s1,.slice ao1 n1 cp1,.int .i64 e1,.bool s2,.slice ao2 n2 cp2,.int .i64 e2] 96 (0,0))∧PN w7 (.agg #[.bool s1,.slice ao1 n1 cp1,.int .i64 e1]) t1∧PN w7 (.agg #[.bool s2,.slice ao2 n2 cp2,.int .i64 e2]) t2∧Bw w w7)∧PBx w7 gqL s4 ao4 n4 cp4 e4 tl∧PBx w7 gqH s5 ao5 n5 cp5 e5 th):=⟨⟨qQ H6.out.1.1 hb7 (qQ6 H6.out.1.1),H6.out.1.2.1.later hb7,H6.out.1.2.2.1.later hb7,H6.out.1.2.2.2.trans (hb7.mono H6.out.1.2.2.2.size)⟩,H6.out.2.1.later hb7,H6.out.2.2.later hb7⟩;clear kk d0 d1 d2 hb7 H6
     go_wp2
     go_meet
     exact⟨rfl,H7⟩
   case rest =>
   obtain⟨rfl,H8⟩:=hcut;clear H6 kC
   go_upto_if 43 with fail
   go_cut [11] from 34 to 45 (fun v wx=>v=.int .u64 (LS:Nat)∧Hid ((wx.heap[w.heap.size]?=some (.cells #[.bool s1,.slice ao1 n1 cp1,.int .i64 e1,.bool s2,.slice ao2 n2 cp2,.int .i64 e2] 96 (0,0))∧PN wx (.agg #[.bool s1,.slice ao1 n1 cp1,.int .i64 e1]) t1∧PN wx (.agg #[.bool s2,.slice ao2 n2 cp2,.int .i64 e2]) t2∧Bw w wx)∧PBx wx gqL s4 ao4 n4 cp4 e4 tl∧PBx wx gqH s5 ao5 n5 cp5 e5 th))
   case first =>
    cases hc:b1&&r1
    ·go_wp2
     go_meet
     exact⟨by rw[hLS.out,hc];simp,H8⟩
    ·go_wp2
     go_meet
     exact⟨by rw[hLS.out,hc];simp,H8⟩
   case rest =>
   obtain⟨rfl,H7⟩:=hcut;clear H8 hwN;obtain⟨c0,c1,c2,c3,c4,c5⟩:=(qJ7 H7.out.1.1).1;obtain⟨d0,d1,d2⟩:=(qY7 H7.out.2.2.1).1;have kk:=kD.out _ _ H7.out.1.2.2.2 H7.out.1.2.1 H7.out.1.2.2.1 H7.out.2.2.2;clear kD
   go_wp2_with fail;refine kk.mono ?_;rintro r w8 ⟨s6,ao6,n6,cp6,e6,rfl,hA,hb8⟩;clear kk c0 c1 c2 c3 c4 c5 d0 d1 d2;obtain⟨W8,hW8⟩:∃ W8,W8=w8.alloc (.cells #[.bool s6,.slice ao6 n6 cp6,.int .i64 e6] 65):=⟨_,rfl⟩;have hbV:Bw w8 W8:=by rw[hW8];exact(xV9 _ _).alloc (xV8 _) _
   have n6:W8.heap[w8.heap.size]?=some (.cells #[.bool s6,.slice ao6 n6 cp6,.int .i64 e6] 65 (0,0)):=by rw[hW8];exact xG5 _ _
   have hb78:=hb8.trans (hbV.mono hb8.size)
   go_upto_region 9 with fail;rw[←hW8];clear hW8;have hA':=hA.later hbV;clear hbV hA hb8;generalize w8.heap.size=gqM at *;have H8:Hid ((W8.heap[w.heap.size]?=some (.cells #[.bool s1,.slice ao1 n1 cp1,.int .i64 e1,.bool s2,.slice ao2 n2 cp2,.int .i64 e2] 96 (0,0))∧PN W8 (.agg #[.bool s1,.slice ao1 n1 cp1,.int .i64 e1]) t1∧PN W8 (.agg #[.bool s2,.slice ao2 n2 cp2,.int .i64 e2]) t2∧Bw w W8)∧PBx W8 gqH s5 ao5 n5 cp5 e5 th):=⟨⟨qQ H7.out.1.1 hb78 (qQ6 H7.out.1.1),H7.out.1.2.1.later hb78,H7.out.1.2.2.1.later hb78,H7.out.1.2.2.2.trans (hb78.mono H7.out.1.2.2.2.size)⟩,H7.out.2.2.later hb78⟩;obtain⟨⟨d0,d1,d2⟩,-⟩:=qQ1 n6;have kk:=kE.out W8 _ H8.out.1.2.2.2 hA';clear kE H7 hb78 n6 hA'
   go_wp2_with fail;refine kk.mono ?_;rintro r w9 ⟨rfl,hb9⟩;have H9:Hid ((w9.heap[w.heap.size]?=some (.cells #[.bool s1,.slice ao1 n1 cp1,.int .i64 e1,.bool s2,.slice ao2 n2 cp2,.int .i64 e2] 96 (0,0))∧PN w9 (.agg #[.bool s1,.slice ao1 n1 cp1,.int .i64 e1]) t1∧PN w9 (.agg #[.bool s2,.slice ao2 n2 cp2,.int .i64 e2]) t2∧Bw w w9)∧PBx w9 gqH s5 ao5 n5 cp5 e5 th):=⟨⟨qQ H8.out.1.1 hb9 (qQ6 H8.out.1.1),H8.out.1.2.1.later hb9,H8.out.1.2.2.1.later hb9,H8.out.1.2.2.2.trans (hb9.mono H8.out.1.2.2.2.size)⟩,H8.out.2.later hb9⟩;clear kk d0 d1 d2 hb9 H8;have hwM:IntKind.u64.wrap ((M:Int) - 1)=((M - 1:Nat):Int):=by have:=hM0.out;rw[xG4];omega
   go_upto_region 10 with fail;cases b2
   ·clear kF
    go_wp2;refine xG6 (xF rfl _ _ _) rfl ?_;exact⟨by rw[hMS.out];simp,H9.out.1.2.2.2⟩
   ·have kk:=kF.out rfl w9 _ H9.out.1.2.2.2 H9.out.2.2;obtain⟨⟨d0,d1,d2⟩,-⟩:=qQ1 H9.out.2.1;clear kF
    go_wp2_with fail;refine kk.mono ?_;rintro r wA ⟨rfl,hbA⟩;have HA:Hid (Bw w wA):=H9.out.1.2.2.2.trans (hbA.mono H9.out.1.2.2.2.size);clear kk d0 d1 d2 hbA H9;cases r2
    ·go_wp2;refine xG6 (xF rfl _ _ _) rfl ?_;exact⟨by rw[hMS.out];simp,HA.out⟩
    ·go_wp2;refine xG6 (xF rfl _ _ _) rfl ?_;exact⟨by rw[hMS.out];simp,HA.out⟩
def fwU (j:Nat):Nat:=10^(16 - j)
def fwL (t j:Nat):Nat:=t / 2 / fwU j*fwU j
theorem zX7 (j:Nat):0<fwU j:=Nat.pow_pos (by decide)
theorem zT2 (j:Nat):fwU j≤10000000000000000:=xU7 (xU3 (by decide) (Nat.sub_le 16 j)) (by decide)
theorem yZ0 {j:Nat} (h:1<fwU j):fwU j / 10=fwU (j+1)∧j<16:=by
 have hj:j<16:=by
  rcases Nat.lt_or_ge j 16 with h1|h1
  ·exact h1
  ·have:fwU j=1:=by unfold fwU;rw[Nat.sub_eq_zero_of_le h1]
   omega
 refine⟨?_,hj⟩
 unfold fwU;rw[show 16 - j=(16 - (j+1))+1 by omega,xH2,Nat.mul_div_cancel _ (by decide)]
theorem xQ4 (t j:Nat):fwL t j≤t / 2:=Nat.div_mul_le_self _ _
theorem zG6 (a b:Nat):Int.tdiv (a:Int) (b:Int)=((a / b:Nat):Int):=by simp
theorem zE9 (f:Nat) (s1:Bool) (ao1:Option Addr) (n1 cp1:Nat) (e1:Int) (s2:Bool) (ao2:Option Addr) (n2 cp2:Nat) (e2:Int) (s3:Bool) (ao3:Option Addr) (n3 cp3:Nat) (e3:Int) (t1 t2 ta td tn tp:Bool×Nat×Int) (is ab:Bool) (LS MS TW J F:Nat) (w:World) (h1:PN w (.agg #[.bool s1,.slice ao1 n1 cp1,.int .i64 e1]) t1) (h2:PN w (.agg #[.bool s2,.slice ao2 n2 cp2,.int .i64 e2]) t2) (h3:PN w (.agg #[.bool s3,.slice ao3 n3 cp3,.int .i64 e3]) ta) (hLS:LS<4611686018427387904) (hMS:MS<4611686018427387904) (hTW:TW<4611686018427387904)
  (hJ1:Hid (∀ j,j<J→1<fwU j∧fwL TW j<LS∧MS<fwL TW j+fwU j)) (hJ2:Hid (¬ (1<fwU J∧fwL TW J<LS∧MS<fwL TW J+fwU J)))
  (hab:Hid (ab=(decide (fwU J<TW - 2*fwL TW J)||(decide (TW - 2*fwL TW J=fwU J)&&(!is||decide (fwL TW J / fwU J % 2=1))))))
  (hF:Hid (F=if fwL TW J<LS∨(ab=true∧fwL TW J+fwU J≤MS)then fwL TW J+fwU J else fwL TW J))
  (k1:Hid (∀ W,Bw w W→PN W (.agg #[.bool s1,.slice ao1 n1 cp1,.int .i64 e1]) t1→PN W (.agg #[.bool s2,.slice ao2 n2 cp2,.int .i64 e2]) t2→Calls Tryz.prog 152 #[.float .f64 f,.agg #[.bool s1,.slice ao1 n1 cp1,.int .i64 e1,.bool s2,.slice ao2 n2 cp2,.int .i64 e2]] W fun r w'=>r=.returned (.tuple #[.int .u64 (LS:Nat),.int .u64 (MS:Nat)])∧Bw W w'))
  (k2:Hid (∀ W X,Bw w W→PN W X ta→Calls Tryz.prog 153 #[X,.int .i64 1] W fun r w'=>OutA W td r w'))
  (k3:Hid (∀ W X,Bw w W→PN W (.agg #[.bool s1,.slice ao1 n1 cp1,.int .i64 e1]) t1→PN W (.agg #[.bool s2,.slice ao2 n2 cp2,.int .i64 e2]) t2→PN W X td→Calls Tryz.prog 105 #[.agg #[.bool s1,.slice ao1 n1 cp1,.int .i64 e1,.bool s2,.slice ao2 n2 cp2,.int .i64 e2],X] W fun r w'=>zQ1 W tn is r w'))
  (k4:Hid (∀ W X,Bw w W→PN W X tn→Calls Tryz.prog 102 #[X] W fun r w'=>r=.returned (.int .u64 (TW:Nat))∧Bw W w'))
  (k5:Hid (∀ W,Bw w W→Calls Tryz.prog 99 #[.int .i64 10,.int .i64 16] W fun r w'=>OutA W tp r w'))
  (k6:Hid (∀ W X,Bw w W→PN W X tp→Calls Tryz.prog 102 #[X] W fun r w'=>r=.returned (.int .u64 (fwU 0:Nat))∧Bw W w')) :
  Calls Tryz.prog 89 #[.float .f64 f,.agg #[.bool s3,.slice ao3 n3 cp3,.int .i64 e3],.agg #[.bool s1,.slice ao1 n1 cp1,.int .i64 e1,.bool s2,.slice ao2 n2 cp2,.int .i64 e2]] w fun r w'=>r=.returned (.int .u64 (F:Nat))∧Bw w w':=by
 obtain⟨W,hW⟩:∃ W,W=(w.alloc (.cells #[.bool s3,.slice ao3 n3 cp3,.int .i64 e3] 65)).alloc (.cells #[.bool s1,.slice ao1 n1 cp1,.int .i64 e1,.bool s2,.slice ao2 n2 cp2,.int .i64 e2] 96):=⟨_,rfl⟩;obtain⟨z1,z2,z3,z4⟩:=qV5 _ _ hW;have H0:Hid (W.heap[w.heap.size+1]?=some (.cells #[.bool s1,.slice ao1 n1 cp1,.int .i64 e1,.bool s2,.slice ao2 n2 cp2,.int .i64 e2] 96 (0,0))∧PN W (.agg #[.bool s1,.slice ao1 n1 cp1,.int .i64 e1]) t1∧PN W (.agg #[.bool s2,.slice ao2 n2 cp2,.int .i64 e2]) t2∧Bw w W∧PBx W w.heap.size s3 ao3 n3 cp3 e3 ta):=⟨z2,h1.later z4,h2.later z4,z4,⟨z1,h3.later z4⟩⟩;have kk:=k1.out W z4 (h1.later z4) (h2.later z4);obtain⟨c0,c1,c2,c3,c4,c5⟩:=(qJ7 z2).1;clear k1 h1 h2 h3 z1 z2 z3 z4
 go_enter Tryz.func89,Tryz.ntmps89
 go_upto_region 1 with fail;rw[←hW];clear hW
 go_wp2_with fail;refine kk.mono ?_;rintro r w1 ⟨rfl,hb1⟩;have H1:Hid (w1.heap[w.heap.size+1]?=some (.cells #[.bool s1,.slice ao1 n1 cp1,.int .i64 e1,.bool s2,.slice ao2 n2 cp2,.int .i64 e2] 96 (0,0))∧PN w1 (.agg #[.bool s1,.slice ao1 n1 cp1,.int .i64 e1]) t1∧PN w1 (.agg #[.bool s2,.slice ao2 n2 cp2,.int .i64 e2]) t2∧Bw w w1∧PBx w1 w.heap.size s3 ao3 n3 cp3 e3 ta):=⟨qQ H0.out.1 hb1 (qQ6 H0.out.1),H0.out.2.1.later hb1,H0.out.2.2.1.later hb1,H0.out.2.2.2.1.trans (hb1.mono H0.out.2.2.2.1.size),H0.out.2.2.2.2.later hb1⟩;clear kk hb1 H0 c0 c1 c2 c3 c4 c5
 go_upto_region 2 with fail;obtain⟨mS,p1,p2,hBW,m1⟩:=H1.out;refine qF7 qZ7 [0,1,2,3,4,5,6,9] [7] [8] [23,24,25,26,22,27,28,10] [9] [[],[],[1],[0,2],[3],[4],[4],[6]] [5] 65 #[.bool false,.slice none 0 0,.int .i64 0] w1 _ [isV (.agg #[.bool s1,.slice ao1 n1 cp1,.int .i64 e1,.bool s2,.slice ao2 n2 cp2,.int .i64 e2]),isV (.agg #[.bool s3,.slice ao3 n3 cp3,.int .i64 e3]),isP (td),isW2 tn is,isW2 tn is,isP (tn),isV (.bool is),isV (.bool is)] (by kernel_rfl) ⟨qQ3 _,qQ3 _,qZ9 _,qB4 _ _,qB4 _ _,qZ9 _,qQ3 _,qQ3 _,trivial⟩ ⟨fun _ _ _ _ _ h=>h,fun _ _ _ _ _ h=>h,qK3 _,qP1 _ _,qP1 _ _,qK3 _,fun _ _ _ _ _ h=>h,fun _ _ _ _ _ h=>h,trivial⟩ (by show ∀ s ∈ [23,24,25,26,22,27,28,10] ++ [9],s<101;decide) ?_ ?_ ?_ qA2 Tryz.info65 ?_ ?_
 ·intro k' hk U u h;obtain rfl:k'=0:=Nat.lt_one_iff.1 hk;obtain⟨ao,cap,rfl,-⟩:=(show PN U u (tn)from h);exact⟨_,rfl,rfl,one3 rfl rfl⟩
 ·intro j hj o ho act U hb hoth hdep;have hj':j<8:=hj;have hbU:Bw w U:=hBW.trans (hb.mono hBW.size);have t4':act.tmps[(4:Nat)]?=some (Value.pointer (some ⟨w.heap.size,0,none⟩)):=(hoth 4 (by decide)).trans rfl
  have t5':act.tmps[(5:Nat)]?=some (Value.pointer (some ⟨w.heap.size+1,0,none⟩)):=(hoth 5 (by decide)).trans rfl
  have d4:=(qY7 (qQ m1.1 hb (qQ6 m1.1))).1;have d5:=(qJ7 (qQ mS hb (qQ6 mS))).1;rcases(by omega:j=0∨j=1∨j=2∨j=3∨j=4∨j=5∨j=6∨j=7)with rfl|rfl|rfl|rfl|rfl|rfl|rfl|rfl
  ·obtain rfl:=xU ho;exact .inl ⟨rfl,yM2 rfl t5' (by simp[go_sem,d5.1,d5.2.1,d5.2.2.1,d5.2.2.2.1,d5.2.2.2.2.1,d5.2.2.2.2.2]) ⟨_,rfl,rfl,xV9 _ _⟩⟩
  ·obtain rfl:=xU ho;exact .inl ⟨rfl,qY6 (f:=0) rfl t4' d4.1 d4.2.1 d4.2.2 ⟨_,rfl,rfl,xV9 _ _⟩⟩
  ·obtain rfl:=xU ho;have y1:act.tmps[(24:Nat)]?=_:=dV (hdep 1 (by simp[dL])) rfl
   refine .inl ⟨rfl,qZ rfl (qZ4 Tryz.func153 (by kernel_rfl) (by kernel_rfl)) (zR y1) ?_⟩
   refine(k2.out U _ hbU (m1.2.later hb)).mono ?_
   rintro r w' ⟨_,_,_,_,_,rfl,hA,hb'⟩;exact⟨_,rfl,_,rfl,hA,hb'⟩
  ·obtain rfl:=xU ho;have y0:act.tmps[(23:Nat)]?=_:=dV (hdep 0 (by simp[dL])) rfl
   obtain⟨u2,y2a,v2⟩:=hdep 2 (by simp[dL])
   have y2:act.tmps[(25:Nat)]?=_:=y2a;refine .inl ⟨rfl,qZ rfl (qZ4 Tryz.func105 (by kernel_rfl) (by kernel_rfl)) (map2 y0 y2) ?_⟩
   refine(k3.out U _ hbU (p1.later hb) (p2.later hb) v2).mono ?_
   rintro r w' ⟨_,_,_,_,_,rfl,hA,hb'⟩;exact⟨_,rfl,_,rfl,⟨_,rfl,hA⟩,hb'⟩
  ·obtain rfl:=xU ho;obtain⟨u3,y3a,v3⟩:=hdep 3 (by simp[dL])
   have y3:act.tmps[(26:Nat)]?=_:=y3a;exact .inl ⟨rfl,qX5 rfl y3 ⟨_,rfl,v3,xV9 _ _⟩⟩
  ·obtain rfl:=xU ho;obtain⟨u4,y4a,A,rfl,vA⟩:=hdep 4 (by simp[dL])
   have y4:act.tmps[(22:Nat)]?=_:=y4a;exact .inl ⟨rfl,qK5 rfl y4 rfl ⟨_,rfl,vA,xV9 _ _⟩⟩
  ·obtain rfl:=xU ho;obtain⟨u4,y4a,A,rfl,vA⟩:=hdep 4 (by simp[dL])
   have y4:act.tmps[(22:Nat)]?=_:=y4a;exact .inl ⟨rfl,qK5 rfl y4 rfl ⟨_,rfl,rfl,xV9 _ _⟩⟩
  ·obtain rfl:=xU ho;have y6:act.tmps[(28:Nat)]?=_:=dV (hdep 6 (by simp[dL])) rfl
   exact .inl ⟨rfl,qX6 rfl y6 ⟨_,rfl,rfl,xV9 _ _⟩⟩
 ·intro k' hk;obtain rfl:k'=0:=Nat.lt_one_iff.1 hk;exact⟨_,rfl,rfl⟩
 ·intro k' hk;obtain rfl:k'=0:=Nat.lt_one_iff.1 hk;exact⟨_,rfl,rfl⟩
 ·intro u g W3 hb3 hu hg hap;obtain⟨g0,cs0,q0,z0⟩:=hg 0 (by decide)
  have q7:PN W3 (u 5) (tn):=hu 5 (by decide)
  have q0':u 5=.agg cs0:=q0;rw[q0'] at q7;obtain⟨s5,ao5,n5,cp5,e5,h5⟩:=q7.shape1;obtain rfl:=Value.agg.inj h5;obtain⟨gqN,hgS⟩:∃ x,x=g 0:=⟨_,rfl⟩;rw[←hgS] at z0 g0;have u7:u 7=.bool is:=hu 7 (by decide)
  have H3:Hid (Bw w W3∧PBx W3 gqN s5 ao5 n5 cp5 e5 tn):=⟨hBW.trans (hb3.mono hBW.size),⟨z0,q7⟩⟩;clear hu hg hap hb3 m1 mS p1 p2 hBW H1 q0 q0' z0 g0 q7 h5 k2 k3;simp only[putL,show List.range 8 = [0,1,2,3,4,5,6,7] from rfl,show List.range 1 = [0] from rfl,List.length_cons,List.length_nil,List.getD_cons_zero,List.getD_cons_succ,List.map_cons,List.map_nil,List.cons_append,List.nil_append,List.foldl_cons,List.foldl_nil,Nat.reduceLT,Nat.reduceMod,Nat.reduceDiv,Nat.reduceMul,Nat.reduceAdd,Nat.reduceEqDiff,reduceIte,Nat.one_ne_zero,Act.put,List.setIfInBounds_toArray,List.set_cons_zero,List.set_cons_succ];rw[←hgS];clear hgS;rw[u7];clear u7;obtain⟨⟨d0,d1,d2⟩,-⟩:=qQ1 H3.out.2.1;have kk:=k4.out W3 _ H3.out.1 H3.out.2.2;clear k4
  go_wp2_with fail;refine kk.mono ?_;rintro r w4 ⟨rfl,hb4⟩;have H4:Hid (Bw w w4):=H3.out.1.trans (hb4.mono H3.out.1.size);have kk2:=k5.out w4 H4.out;clear kk d0 d1 d2 hb4 H3 k5
  go_wp2_with fail;refine kk2.mono ?_;rintro r w5 ⟨s6,ao6,n6,cp6,e6,rfl,hA,hb5⟩;have H5:Hid (Bw w w5):=H4.out.trans (hb5.mono H4.out.size);have kk3:=k6.out w5 _ H5.out hA;clear kk2 hb5 H4 k6 hA
  go_wp2_with fail;refine kk3.mono ?_;rintro r w6 ⟨rfl,hb6⟩;have H6:Hid (Bw w w6):=H5.out.trans (hb6.mono H5.out.size);clear kk3 hb6 H5
  go_upto_region 5 with fail;obtain⟨U,hU⟩:∃ U,U=fwU 0:=⟨_,rfl⟩;have HU:Hid (U=fwU 0∧0<U∧U≤10000000000000000):=⟨hU,by rw[hU];exact zX7 0,by rw[hU];exact zT2 0⟩
  rw[←hU];clear hU;have hU0:0<U:=HU.out.2.1;have hUn:((U:Int)==0)=false:=by rw[xH];omega
  obtain⟨T2,hT2⟩:∃ T2,T2=TW / 2:=⟨_,rfl⟩;have HT2:Hid (T2=TW / 2):=hT2;obtain⟨q,hq⟩:∃ q,q=T2 / U:=⟨_,rfl⟩;obtain⟨l0,hl⟩:∃ l0,l0=q*U:=⟨_,rfl⟩;have Hl0:Hid (l0=fwL TW 0):=(by rw[hl,hq,hT2,HU.out.1];rfl:l0=fwL TW 0)
  have b1:l0≤T2:=by rw[hl,hq];exact Nat.div_mul_le_self _ _
  have b2:q≤T2:=by rw[hq];exact xU8 _ _
  have b3:T2<4611686018427387904:=by omega
  have e1:Int.tdiv (TW:Int) 2=(T2:Int):=by rw[hT2];exact zG6 _ _
  have e2:Int.tdiv (T2:Int) (U:Int)=(q:Int):=by rw[hq];exact zG6 _ _
  have e3:(q:Int)*(U:Int)=(l0:Int):=by rw[hl];exact(xH5 _ _).symm
  have w1:IntKind.u64.wrap (T2:Int)=(T2:Int):=by rw[xG4];omega
  have w2:IntKind.u64.wrap (q:Int)=(q:Int):=by rw[xG4];omega
  have w3:IntKind.u64.wrap (l0:Int)=(l0:Int):=by rw[xG4];omega
  clear hT2 hq hl
  go_wp2;clear e1 e2 e3 w1 w2 w3 b1 b2 hU0 hUn
  go_loopg [12,13] J (fun m u l wr=>∃ j:Nat,j+m=J∧u=.int .u64 (fwU j:Nat)∧l=.int .u64 (fwL TW j:Nat)∧wr=w6)
  case atStart=>exact⟨0,by omega,by rw[HU.out.1],by rw[Hl0.out],rfl⟩
  case round =>
   obtain⟨j,hjm,rfl,rfl,hwr⟩:=hrel;replace hwr:=hwr.symm;subst hwr;have HJM:Hid (j+gk=J):=hjm;clear Hl0 HU hjm;obtain⟨Uj,hUj⟩:∃ Uj,Uj=fwU j:=⟨_,rfl⟩;obtain⟨Lj,hLj⟩:∃ Lj,Lj=fwL TW j:=⟨_,rfl⟩;have HUL:Hid (Uj=fwU j∧Lj=fwL TW j∧Lj=T2 / Uj*Uj):=⟨hUj,hLj,by rw[hLj,hUj,HT2.out];rfl⟩
   have b0:0<Uj:=by rw[hUj];exact zX7 j
   have b1:Uj≤10000000000000000:=by rw[hUj];exact zT2 j
   have b2:Lj≤T2:=by rw[HUL.out.2.2];exact Nat.div_mul_le_self _ _
   have b4:T2≤TW:=by rw[HT2.out];exact xU8 _ _
   rw[←hUj,←hLj];clear hUj hLj;have w0:IntKind.u64.wrap ((Lj:Int)+(Uj:Int))=(Lj:Int)+(Uj:Int):=by rw[xG4];omega
   by_cases hlt:j<J
   ·obtain⟨x1,x2,x3⟩:=hJ1.out j hlt;rw[←HUL.out.1] at x1 x3;rw[←HUL.out.2.1] at x2 x3;obtain⟨n1',n2'⟩:=yZ0 (j:=j) (by rw[←HUL.out.1];exact x1)
    have c1:(1:Int)<(Uj:Int):=by omega
    have c2:(Lj:Int)<(LS:Int):=by omega
    have c3:(MS:Int)<(Lj:Int)+(Uj:Int):=by omega
    obtain⟨Uk,hUk⟩:∃ Uk,Uk=Uj / 10:=⟨_,rfl⟩;have HK:Hid (Uk=fwU (j+1)):=(by rw[hUk,HUL.out.1];exact n1':Uk=fwU (j+1))
    have hk0:0<Uk:=by rw[HK.out];exact zX7 _
    have hkn:((Uk:Int)==0)=false:=by rw[xH];omega
    obtain⟨q,hq⟩:∃ q,q=T2 / Uk:=⟨_,rfl⟩;obtain⟨l0,hl⟩:∃ l0,l0=q*Uk:=⟨_,rfl⟩;have Hl0:Hid (l0=fwL TW (j+1)):=(by rw[hl,hq,HT2.out,HK.out];rfl:l0=fwL TW (j+1))
    have d1:l0≤T2:=by rw[hl,hq];exact Nat.div_mul_le_self _ _
    have d2:q≤T2:=by rw[hq];exact xU8 _ _
    have a0:Int.tdiv (Uj:Int) 10=(Uk:Int):=by rw[hUk];exact zG6 _ _
    have a1:Int.tdiv (TW:Int) 2=(T2:Int):=by rw[HT2.out];exact zG6 _ _
    have a2:Int.tdiv (T2:Int) (Uk:Int)=(q:Int):=by rw[hq];exact zG6 _ _
    have a3:(q:Int)*(Uk:Int)=(l0:Int):=by rw[hl];exact(xH5 _ _).symm
    have w4:IntKind.u64.wrap (Uk:Int)=(Uk:Int):=by rw[xG4];omega
    have w1:IntKind.u64.wrap (T2:Int)=(T2:Int):=by rw[xG4];omega
    have w2:IntKind.u64.wrap (q:Int)=(q:Int):=by rw[xG4];omega
    have w3:IntKind.u64.wrap (l0:Int)=(l0:Int):=by rw[xG4];omega
    clear hq hl hUk x1 x2 x3 n1' n2'
    go_wp2
    go_roundg (gk - 1)
    case measure=>have:=HJM.out;omega
    case rel=>exact⟨j+1,by have:=HJM.out;omega,by rw[HK.out],by rw[Hl0.out],rfl⟩
   ·obtain rfl:j=J:=by have:=HJM.out;omega
    have hst:=hJ2.out;rw[←HUL.out.1,←HUL.out.2.1] at hst
    go_upto_region 6 with fail
    go_cut [52] from 39 to 51 (fun v wx=>v=.bool false∧wx=w6)
    case first =>
     by_cases x1:1<Uj
     ·have c1:(1:Int)<(Uj:Int):=by omega
      by_cases x2:Lj<LS
      ·have c2:(Lj:Int)<(LS:Int):=by omega
       have c3:¬ (MS:Int)<(Lj:Int)+(Uj:Int):=fun h=>hst ⟨x1,x2,by omega⟩
       clear hst x1 x2
       go_wp2
       go_meet
       exact⟨rfl,rfl⟩
      ·have c2:¬ (Lj:Int)<(LS:Int):=by omega
       clear hst x1 x2
       go_wp2
       go_meet
       exact⟨rfl,rfl⟩
     ·have c1:¬ (1:Int)<(Uj:Int):=by omega
      clear hst x1
      go_wp2
      go_meet
      exact⟨rfl,rfl⟩
    case rest =>
    obtain⟨rfl,hwr⟩:=hcut;replace hwr:=hwr.symm;subst hwr;clear hst hlt hJ1 hJ2;have hab':=hab.out;have hF':=hF.out;rw[←HUL.out.1,←HUL.out.2.1] at hab' hF';obtain⟨Q,hQ⟩:∃ Q,Q=Lj / Uj:=⟨_,rfl⟩;rw[←hQ] at hab';obtain⟨fr,hfr⟩:∃ fr,fr=TW - 2*Lj:=⟨_,rfl⟩;rw[←hfr] at hab';have h2L:2*Lj≤TW:=by have:=HT2.out;omega
    obtain⟨D,hD⟩:∃ D,D=2*Lj:=⟨_,rfl⟩;have v1:IntKind.u64.wrap (2*(Lj:Int))=(D:Int):=by rw[xG4];omega
    have v2:IntKind.u64.wrap ((TW:Int) - (D:Int))=(fr:Int):=by rw[xG4];omega
    have HAB:Hid (ab=(decide (Uj<fr)||(decide (fr=Uj)&&(!is||decide (Q % 2=1))))):=hab';have HF:Hid (F=if Lj<LS∨(ab=true∧Lj+Uj≤MS)then Lj+Uj else Lj):=hF';have v3:Int.tdiv (Lj:Int) (Uj:Int)=(Q:Int):=by rw[hQ];exact zG6 _ _
    have v4:IntKind.u64.wrap (Q:Int)=(Q:Int):=by
     have:Q≤Lj:=by rw[hQ];exact xU8 _ _
     rw[xG4];omega
    have v5:((Uj:Int)==0)=false:=by rw[xH];omega
    have hfrb:fr≤TW:=by omega
    clear hab' hF' hQ hfr h2L hD hab hF
    go_upto_region 9 with fail
    go_upto_region 10 with fail;clear v1 v2
    go_cut [15] from 65 to 83 (fun v wx=>v=.bool ab∧wx=w6)
    case first =>
     by_cases x1:Uj<fr
     ·have c1:(Uj:Int)<(fr:Int):=by omega
      have HA:Hid (ab=true):=(by rw[HAB.out,xU1 x1];rfl:ab=true)
      go_wp2
      go_meet
      exact⟨by rw[HA.out],rfl⟩
     ·have c1:¬ (Uj:Int)<(fr:Int):=by omega
      by_cases x2:fr=Uj
      ·have c2:((fr:Int)==(Uj:Int))=true:=by rw[beq_iff_eq];omega
       cases is
       ·have HA:Hid (ab=true):=(by rw[HAB.out,xU1 x2];simp:ab=true)
        clear x1 x2 HAB HF
        go_wp2
        go_meet
        exact⟨by rw[HA.out],rfl⟩
       ·obtain⟨o,ho⟩:∃ o,o=decide (Q % 2=1):=⟨_,rfl⟩;have HA:Hid (ab=o):=(by rw[HAB.out,xU0 x1,xU1 x2,ho];simp:ab=o)
        have v6:Int.tmod (Q:Int) 2=((Q % 2:Nat):Int):=by rw[Int.tmod_eq_emod_of_nonneg (by omega)];omega
        have v7:IntKind.u64.wrap ((Q % 2:Nat):Int)=((Q % 2:Nat):Int):=by rw[xG4];omega
        have v8:(((Q % 2:Nat):Int)==1)=o:=by
         rw[ho];by_cases h:Q % 2=1
         ·rw[h];rfl
         ·rw[xU0 h,xH];omega
        generalize Q % 2=q2 at *;clear x1 x2 ho HAB HF
        go_wp2
        go_meet
        exact⟨by rw[HA.out],rfl⟩
      ·have c2:((fr:Int)==(Uj:Int))=false:=by rw[xH];omega
       have HA:Hid (ab=false):=(by rw[HAB.out,xU0 x1,xU0 x2];rfl:ab=false)
       clear x2 x1
       go_wp2
       go_meet
       exact⟨by rw[HA.out],rfl⟩
    case rest =>
    obtain⟨rfl,hwr⟩:=hcut;replace hwr:=hwr.symm;subst hwr;clear HAB v3 v4 v5 hfrb;obtain⟨cb,hcb⟩:∃ cb,cb=decide (Lj<LS∨(ab=true∧Lj+Uj≤MS)):=⟨_,rfl⟩;have HC:Hid (cb=decide (Lj<LS∨(ab=true∧Lj+Uj≤MS))):=hcb;clear hcb
    go_upto_region 11 with fail
    go_cut [96] from 84 to 95 (fun v wx=>v=.bool cb∧wx=w6)
    case first =>
     by_cases x1:Lj<LS
     ·have c1:(Lj:Int)<(LS:Int):=by omega
      have HA:Hid (cb=true):=(by rw[HC.out];exact xU1 (.inl x1):cb=true)
      clear x1
      go_wp2
      go_meet
      exact⟨by rw[HA.out],rfl⟩
     ·have c1:¬ (Lj:Int)<(LS:Int):=by omega
      cases ab
      ·have HA:Hid (cb=false):=(by rw[HC.out];exact xU0 (fun h=>h.elim x1 (fun h=>absurd h.1 (by decide))):cb=false)
       clear x1
       go_wp2
       go_meet
       exact⟨by rw[HA.out],rfl⟩
      ·by_cases x2:Lj+Uj≤MS
       ·have c2:(Lj:Int)+(Uj:Int)≤(MS:Int):=by omega
        have HA:Hid (cb=true):=(by rw[HC.out];exact xU1 (.inr ⟨rfl,x2⟩):cb=true)
        clear x1 x2
        go_wp2
        go_meet
        exact⟨by rw[HA.out],rfl⟩
       ·have c2:¬ (Lj:Int)+(Uj:Int)≤(MS:Int):=by omega
        have HA:Hid (cb=false):=(by rw[HC.out];exact xU0 (fun h=>h.elim x1 (fun h=>x2 h.2)):cb=false)
        clear x1 x2
        go_wp2
        go_meet
        exact⟨by rw[HA.out],rfl⟩
    case rest =>
    obtain⟨rfl,hwr⟩:=hcut;replace hwr:=hwr.symm;subst hwr;have HFF:Hid (F=if cb=true then Lj+Uj else Lj):=(by rw[HF.out,HC.out];simp only[decide_eq_true_eq]:F=if cb=true then Lj+Uj else Lj)
    clear HF HC;cases cb
    ·obtain rfl:F=Lj:=HFF.out
     go_wp2
     go_ret;exact⟨rfl,H6.out⟩
    ·obtain rfl:F=Lj+Uj:=HFF.out
     go_wp2
     go_ret;exact⟨by push_cast;rfl,H6.out⟩
end Go.Proofs.YtkcmhaknalomjaaGreatDoor
namespace Go.Proofs.YtkcmhaknalomjaaGreatDoor
open Go Go.RowKit Go.Fl64
def zO6 (a:Nat):Nat:=if mag a=0 then 1 else if neg a then a - 1 else a+1
theorem yP0 (a:Nat) (w:World) (hn:(FloatKind.f64.format.order a a != some Ordering.eq)=false) (h2:((a:Int)==9218868437227405312)=false) (h3:(FloatKind.f64.format.order a 0==some Ordering.eq)=true) :
  Calls Tryz.prog 242 #[.float .f64 a] w fun r w'=>r=.returned (.float .f64 1)∧w'=w:=by
 have kb:=Ie.run_bits;have kf:=Ie.run_frombits
 go_enter Tryz.func242,Tryz.ntmps242
 go_wp2
 go_ret;exact⟨rfl,rfl⟩
theorem yP (a:Nat) (r:Int) (w:World) (hn:(FloatKind.f64.format.order a a != some Ordering.eq)=false) (h2:((a:Int)==9218868437227405312)=false) (h3:(FloatKind.f64.format.order a 0==some Ordering.eq)=false) (h4:(bits .and .u64 (a:Int) 9223372036854775808 != 0)=true) (h5:IntKind.u64.wrap ((a:Int) - 1)=r) :
  Calls Tryz.prog 242 #[.float .f64 a] w fun e w'=>e=.returned (.float .f64 r.toNat)∧w'=w:=by
 have kb:=Ie.run_bits;have kf:=Ie.run_frombits
 go_enter Tryz.func242,Tryz.ntmps242
 go_wp2
 go_ret;exact⟨rfl,rfl⟩
theorem yM9 (a:Nat) (r:Int) (w:World) (hn:(FloatKind.f64.format.order a a != some Ordering.eq)=false) (h2:((a:Int)==9218868437227405312)=false) (h3:(FloatKind.f64.format.order a 0==some Ordering.eq)=false) (h4:(bits .and .u64 (a:Int) 9223372036854775808 != 0)=false) (h5:IntKind.u64.wrap ((a:Int)+1)=r) :
  Calls Tryz.prog 242 #[.float .f64 a] w fun e w'=>e=.returned (.float .f64 r.toNat)∧w'=w:=by
 have kb:=Ie.run_bits;have kf:=Ie.run_frombits
 go_enter Tryz.func242,Tryz.ntmps242
 go_wp2
 go_ret;exact⟨rfl,rfl⟩
theorem zO5 (a:Nat) (ha:a<18446744073709551616) (hn:mag a<9218868437227405312) (w:World) :
  Calls Tryz.prog 242 #[.float .f64 a] w fun r w'=>r=.returned (.float .f64 (zO6 a))∧w'=w:=by
 have n1:qK2 a=false:=xU0 (by omega)
 have q1:=qC2 a ha;rw[n1] at q1;have q2:((a:Int)==9218868437227405312)=false:=by
  rw[xH];intro h;have:a=9218868437227405312:=by omega
  rw[this] at hn;revert hn;decide
 have q3:=zM1 ha;have q3':(FloatKind.f64.format.order a 0==some Ordering.eq)=decide (mag a=0):=by
  have:(FloatKind.f64.format.order a 0 != some Ordering.eq) = !(FloatKind.f64.format.order a 0==some Ordering.eq):=rfl
  rw[this] at q3;revert q3
  cases (FloatKind.f64.format.order a 0==some Ordering.eq) <;> cases decide (mag a=0) <;> simp
 have q4:(bits .and .u64 (a:Int) 9223372036854775808 != 0)=neg a:=by
  rw[yX8 a ha];cases neg a <;> decide
 unfold zO6;by_cases h0:mag a=0
 ·rw[if_pos h0];rw[xU1 h0] at q3';exact yP0 a w q1 q2 q3'
 ·rw[if_neg h0];rw[xU0 h0] at q3';cases hs:neg a
  ·rw[hs] at q4;have h9:a<9223372036854775808:=by unfold neg at hs;simpa using hs
   rw[if_neg (by decide)]
   exact yM9 a ((a+1:Nat):Int) w q1 q2 q3' q4 (by rw[xG4];omega)
  ·rw[hs] at q4;have h9:9223372036854775808≤a:=by unfold neg at hs;simpa using hs
   rw[if_pos rfl];exact yP a ((a - 1:Nat):Int) w q1 q2 q3' q4 (by rw[xG4];omega)
theorem yN4 {t:Bool×Nat×Int} {X:Value} {w:World} (ok:Ok t) (h:PN w X t):Calls Tryz.prog 125 #[X] w fun r w'=>r=.returned (.int .i64 ((bl t.2.1:Nat)+t.2.2))∧Bw w w':=by
 obtain⟨pa,pc,rfl,i1⟩:=h;have f:=ok.facts;refine yI5 t.1 pa _ pc t.2.2 _ w (fun W g hW hg=>?_) (fun W' hW'=>c75 (i1.later hW') (by omega) (by omega) (by omega))
 have:=qL7 hg (i1.later hW) (by omega)
 have ok':okN t.1 (dlen t.2.1) t.2.1 t.2.2=true:=ok;rw[ok'] at this;exact this
theorem yN3 {A p b:Nat} (h:A<2^b) (h0:A≠0) (hb:b≤60000) (hp:p≤60000) {W:World} {X:Value} (hX:PN W X (un (A:Int) p)) :
  Calls Tryz.prog 125 #[X] W fun r w'=>r=.returned (.int .i64 ((bl A:Nat) - (p:Int)))∧Bw W w':=by
 have k:=yN4 (qV6 (nabs h) hb hp) hX;have sp:=(qX9 _ _ (xV8 _) h0).1;have e1:(un (A:Int) p).2.1=A / 2^tz A:=by unfold un cn;rw[xG9,if_neg h0]
 have e2:(un (A:Int) p).2.2=(tz A:Int) - p:=by unfold un cn;rw[xG9,if_neg h0];show -(p:Int)+(tz A:Int)=_;omega
 have hx:A / 2^tz A≠0:=by intro h9;rw[h9,Nat.mul_zero] at sp;omega
 have e3:bl A=bl (A / 2^tz A)+tz A:=by
  have:=zC5 (x:=A / 2^tz A) (k:=tz A) hx
  rw[xH1,sp] at this;exact this
 rw[e1,e2] at k;rw[e3];rw[show((bl (A / 2^tz A)+tz A:Nat):Int) - (p:Int)=((bl (A / 2^tz A):Nat):Int)+((tz A:Int) - p) by push_cast;omega]
 exact k
theorem zH1 {R:Nat} (h:R<9218868437227405312) (W:World):(Op.unary UnOp.neg (Value.float .f64 R)).run Tryz.prog W=.ok (.float .f64 (R+9223372036854775808)) W:=by
 have hn:Op.negFloat .f64 R=R+9223372036854775808:=by rw[Fl64.negF R (by omega)];unfold Fl64.ngt Fl64.neg;simp;omega
 rw[←hn];rfl
theorem zH0 {R:Nat} (h:R<9218868437227405312) (W:World):(Op.unary UnOp.neg (Value.float .f64 (R+9223372036854775808))).run Tryz.prog W=.ok (.float .f64 R) W:=by
 have hn:Op.negFloat .f64 (R+9223372036854775808)=R:=by rw[Fl64.negF _ (by omega)];unfold Fl64.ngt Fl64.neg;simp
 have h2:(Op.unary UnOp.neg (Value.float .f64 (R+9223372036854775808))).run Tryz.prog W=.ok (.float .f64 (Op.negFloat .f64 (R+9223372036854775808))) W:=rfl;rw[h2,hn]
theorem Dprev {a:Nat} (h0:0<a) (h1:a<9218868437227405312) (w:World):Calls Tryz.prog 207 #[.float .f64 a] w fun r w'=>r=.returned (.float .f64 (a - 1))∧w'=w:=by
 have hm:mag (a+9223372036854775808)=a:=by unfold mag;omega
 have k:=zO5 (a+9223372036854775808) (by omega) (by rw[hm];exact h1)
 have e:zO6 (a+9223372036854775808)=a - 1+9223372036854775808:=by
  unfold zO6;rw[hm,if_neg (by omega),if_pos (by unfold neg;exact xU1 (by omega))]
  omega
 rw[e] at k;have n1:=zH1 h1;have n2:=zH0 (R:=a - 1) (by omega)
 generalize a - 1=c at *;clear e hm h0 h1
 go_enter Tryz.func207,Tryz.ntmps207
 go_wp2_with (first|(go_at_call 242;refine(k _).mono ?_;rintro r w' ⟨rfl,hw⟩;replace hw:=hw.symm;subst hw))
 go_ret;exact⟨rfl,rfl⟩
def utF (a:Nat):Nat:=Ie.mk false 1 (Ie.lp a) 2 9221120237041090561
theorem Dunit {a:Nat} (ha:a<18446744073709551616) (hf:mag a<9218868437227405312) (w:World):Calls Tryz.prog 208 #[.float .f64 a] w fun r w'=>r=.returned (.float .f64 (utF a))∧w'=w:=by
 obtain⟨c1,c2,-⟩:=qS hf;have kC:=fun V=>Ie.c9 a ha V;have kL:=fun V=>Ie.c47 a ha V;have kM:=fun V=>Ie.c24 false 1 (Ie.lp a) 2 (by omega) V
 have hc1:(cls a==1)=false:=by rw[xH];exact c1
 have hc2:(cls a==2)=false:=by rw[xH];exact c2
 unfold utF;generalize cls a=c at *;generalize Ie.lp a=L at *;generalize Ie.mk false 1 L 2 9221120237041090561=F at *;clear c1 c2 ha hf
 go_enter Tryz.func208,Tryz.ntmps208
 go_wp2_with (first|(go_at_call 87;refine(kC _).mono ?_;rintro r w' ⟨rfl,hw⟩;replace hw:=hw.symm;subst hw)|(go_at_call 116;refine(kL _).mono ?_;rintro r w' ⟨rfl,hw⟩;replace hw:=hw.symm;subst hw)|(go_at_call 77;refine(kM _).mono ?_;rintro r w' ⟨rfl,hw⟩;replace hw:=hw.symm;subst hw))
 go_ret;exact⟨rfl,rfl⟩
def woX0 (A:Nat):Int:=((bl A:Nat) - (kP:Int) - 1)*1262611 / 4194304
def woX (A:Nat):Int:=if 0<unF (A:Int) (tnO (-woX0 A - 1)) (tnU (-woX0 A - 1))then woX0 A+1 else woX0 A
theorem yX4 {A:Nat} (h:A<2^bU) (h0:A≠0):1≤bl A∧bl A≤2200:=by
 refine⟨?_,(qN4 A bU).2 h⟩
 rcases Nat.lt_or_ge 0 (bl A)with h1|h1
 ·exact h1
 ·have:=(qN4 A 0).1 h1
  rw[xH4] at this;omega
theorem yJ4 {A:Nat} (h:A<2^bU) (h0:A≠0) : -400≤woX0 A∧woX0 A≤400:=by
 have hb:=yX4 h h0;have hk:=qD9;unfold woX0;generalize kP=x at *;omega
theorem woX_b {A:Nat} (h:A<2^bU) (h0:A≠0) : -400≤woX A∧woX A≤401:=by
 have:=yJ4 h h0
 unfold woX;split <;> omega
theorem yH0 {A:Nat} {X:Value} {w:World} (hT:Tab32 w) (h:A<2^bU) (h0:A≠0) (hX:PN w X (un (A:Int) kP)) :
  Calls Tryz.prog 66 #[X] w fun r w'=>r=.returned (.int .i64 (woX A))∧Bw w w':=by
 obtain⟨s3,ao3,n3,cp3,e3,rfl⟩:=hX.shape;have hb:=yX4 h h0;have hw:=yJ4 h h0;have hk:=qD9;obtain⟨t1,t2,t3,t4⟩:=zP0 (pl := -woX0 A - 1) (by omega) (by omega)
 have hF:=zJ4 (Z:=(A:Int)) (k:=bU) (l:=dB) (nabs h) t1 t3;have k:=yY0 s3 ao3 n3 cp3 e3 ((bl A:Nat) - (kP:Int)) (woX0 A) (if unF (A:Int) (tnO (-woX0 A - 1)) (tnU (-woX0 A - 1))=0 then 0 else if unF (A:Int) (tnO (-woX0 A - 1)) (tnU (-woX0 A - 1))<0 then -1 else 1) (un ((tnO (-woX0 A - 1):Nat):Int) 0) (un ((tnU (-woX0 A - 1):Nat):Int) 0) (un (A:Int) kP) (un (unF (A:Int) (tnO (-woX0 A - 1)) (tnU (-woX0 A - 1))) 0) (unX (A:Int) (tnO (-woX0 A - 1)) (tnU (-woX0 A - 1))) w hX (by omega) (by omega) rfl
  (fun W hW hX=>yN3 (b:=bU) h h0 (by rw[qG5];omega) (by omega) hX)
  (fun W hW=>zG0 (hT.later hW) (by omega) (by omega) (fun n hn=>klen hn))
  (fun s1 ao1 n1 cp1 e1 s2 ao2 n2 cp2 e2 s3 ao3 n3 cp3 e3 W hW q1 q2 q3=>zG3 (Z:=(A:Int)) (O:=tnO (-woX0 A - 1)) (U:=tnU (-woX0 A - 1)) (p:=kP) (k:=bU) (l:=dB) (hT.later hW) ⟨_,_,_,_,_,_,_,_,_,_,rfl,q1,q2⟩ q3 (nabs h) t1 t2 t3 dk1)
  (fun W X hW hX=>qR9 hF (xF4 dk3) (by omega) hX)
  (by show -1≤_∧_≤1;split <;> (try split) <;> omega)
 have e:(if 0<(if unF (A:Int) (tnO (-woX0 A - 1)) (tnU (-woX0 A - 1))=0 then(0:Int)else if unF (A:Int) (tnO (-woX0 A - 1)) (tnU (-woX0 A - 1))<0 then -1 else 1)then woX0 A+1 else woX0 A)=woX A:=by
  unfold woX;generalize unF (A:Int) (tnO (-woX0 A - 1)) (tnU (-woX0 A - 1))=u;by_cases c1:u=0
  ·rw[if_pos c1,c1]
  ·rw[if_neg c1];by_cases c2:u<0
   ·rw[if_pos c2,if_neg (by decide),if_neg (by omega)]
   ·rw[if_neg c2,if_pos (by decide),if_pos (by omega)]
 rw[e] at k;exact k
def kQ:Nat:=1075
theorem yO5:(kP:Int) - (-1)=kQ:=rfl
theorem kQ_n:kQ=kP+1:=rfl
def shX (a:Nat):Int:=woX (fU a)
def shO (a:Nat):Nat:=tnO (16 - shX a)
def shU (a:Nat):Nat:=tnU (16 - shX a)
def flQ (Z:Int) (a:Nat):Int:=Z*(shO a:Int) / ((shU a*2^kQ:Nat):Int)
def exq (Z:Int) (a:Nat):Bool:=decide (Z*(shO a:Int) % ((shU a*2^kQ:Nat):Int)=0)
def nrF (Z:Int):Nat:=tfF (un Z kQ).1 true (un Z kQ).2.1 (un Z kQ).2.2 2
def isR (Z:Int) (a:Nat):Bool:=(FloatKind.f64.format.order (nrF Z) a==some Ordering.eq)
def loZ (a:Nat):Int:=sZ (a - 1)+sZ a
def hiZ (a:Nat):Int:=sZ a*2+sZ (utF a)
def shN (a:Nat):Nat:=(flQ (loZ a) a).toNat
def shM (a:Nat):Nat:=(flQ (hiZ a) a).toNat
def shL (a:Nat):Nat:=if exq (loZ a) a&&isR (loZ a) a then shN a else shN a+1
def shH (a:Nat):Nat:=if exq (hiZ a) a && !isR (hiZ a) a then shM a - 1 else shM a
def shTz (a:Nat):Int:=sZ a*(shO a:Int) / ((shU a*2^kP1:Nat):Int)
def shT (a:Nat):Nat:=(shTz a).toNat
def shI (a:Nat):Bool:=decide (sZ a*(shO a:Int) % ((shU a*2^kP1:Nat):Int)=0)
structure ShOk (a:Nat):Prop where
 pos:0<a
 fin:a<9218868437227405312
 ut:utF a<9218868437227405312
 lo:0≤flQ (loZ a) a
 lo2:shN a<2305843009213693952
 hi:0<flQ (hiZ a) a
 hi2:shM a<2305843009213693952
 tw:0≤shTz a
 tw2:shT a<2305843009213693952
theorem qG2 {a:Nat} (h:a<9218868437227405312):mag a<9218868437227405312:=by unfold mag;omega
theorem ShOk.x {a:Nat} (h:ShOk a) : -400≤shX a∧shX a≤401:=by
 refine woX_b (qT4 a) ?_;intro h0;have h1:mag a=a:=by unfold mag;have:=h.fin;omega
 have h2:=Ie.mant_ne (a:=a) (by rw[h1];have:=h.pos;omega)
 unfold fU at h0;rcases Nat.mul_eq_zero.1 h0 with h3|h3
 ·exact h2 h3
 ·exact absurd h3 (Nat.ne_of_gt (xU2 _))
theorem zR5 (a:Nat):(loZ a).natAbs<2^(bU+1+1):=by
 have h1:=qH9 (a - 1);have h2:=qH9 a;unfold loZ;exact qB1 1 (zK4 h1 h2)
theorem yU8 (a:Nat):(hiZ a).natAbs<2^(bU+1+1):=by
 have h1:=qH9 a;have h2:=qH9 (utF a);unfold hiZ;have h3:(sZ a*2).natAbs<2^(bU+1):=by rw[xH2];omega
 exact zK4 h3 (qB1 1 h2)
theorem dk7:bU+1+1+dB+kQ≤60000:=by have h1:=qD9;have h2:=qG5;have h3:=qT7;rw[kQ_n];generalize kP=x at *; generalize bU=y at *; generalize dB=z at *; omega
theorem dk8:bU+1+1≤60000:=by have h2:=qG5;generalize bU=y at *; omega
theorem dk9:kQ≤60000∧kP≤60000∧kP1≤60000:=by decide
theorem dkA:bU+dB+kP1≤60000:=by have h1:kP1=1073:=rfl;have h2:=qG5;have h3:=qT7;generalize kP1=x at *; generalize bU=y at *; generalize dB=z at *; omega
theorem zQ5 {Z:Int} {a:Nat} {X:Value} {w:World} (hT:Tab32 w) (hZ:Z.natAbs<2^(bU+1+1)) (hX:PN w X (un Z kQ)) :
  Calls Tryz.prog 209 #[X,.float .f64 a] w fun r w'=>r=.returned (.bool (isR Z a))∧Bw w w':=by
 obtain⟨s3,ao3,n3,cp3,e3,rfl⟩:=hX.shape;exact zK8 s3 ao3 n3 cp3 e3 (un Z kQ) a (nrF Z) (isR Z a) 0 w hX (fun W hW hX=>yI1 (hT.later hW) (qV6 hZ dk8 dk9.1) hX (by omega)) rfl
theorem yT7 {a:Nat} {S:Value} {w:World} (hT:Tab32 w) (hI:Ie.Tab w) (ok:ShOk a) (hS:Fv w S (un ((shO a:Nat):Int) 0) (un ((shU a:Nat):Int) 0)) :
  Calls Tryz.prog 152 #[.float .f64 a,S] w fun r w'=>r=.returned (.tuple #[.int .u64 (shL a:Nat),.int .u64 (shH a:Nat)])∧Bw w w':=by
 obtain⟨s1,ao1,n1,cp1,e1,s2,ao2,n2,cp2,e2,rfl,p1,p2⟩:=hS;have hx:=ok.x;have hfin:=ok.fin;have hpos:=ok.pos;obtain⟨t1,t2,t3,t4⟩:=zP0 (pl:=16 - shX a) (by omega) (by omega)
 have ha:a<18446744073709551616:=by omega
 have hut:=ok.ut;have fl:∀ (Z:Int),Z.natAbs<2^(bU+1+1)→∀ W X,Bw w W→PN W (.agg #[.bool s1,.slice ao1 n1 cp1,.int .i64 e1]) (un ((shO a:Nat):Int) 0)→PN W (.agg #[.bool s2,.slice ao2 n2 cp2,.int .i64 e2]) (un ((shU a:Nat):Int) 0)→PN W X (un Z kQ)→Calls Tryz.prog 105 #[.agg #[.bool s1,.slice ao1 n1 cp1,.int .i64 e1,.bool s2,.slice ao2 n2 cp2,.int .i64 e2],X] W fun r w'=>zQ1 W (un (flQ Z a) 0) (exq Z a) r w':=by
  intro Z hZ W X hW q1 q2 hX;exact zG3 (Z:=Z) (O:=shO a) (U:=shU a) (p:=kQ) (k:=bU+1+1) (l:=dB) (hT.later hW) ⟨_,_,_,_,_,_,_,_,_,_,rfl,q1,q2⟩ hX hZ t1 t2 t3 dk7
 have wd:∀ (Z:Int),0≤flQ Z a→(flQ Z a).toNat<2305843009213693952→∀ W X,PN W X (un (flQ Z a) 0)→Calls Tryz.prog 102 #[X] W fun r w'=>r=.returned (.int .u64 ((flQ Z a).toNat:Nat))∧Bw W w':=by
  intro Z h1 h2 W X hX;rw[show flQ Z a=(((flQ Z a).toNat:Nat):Int) by omega] at hX
  exact yY2 (by omega) hX
 refine zE6 a (a - 1) (utF a) s1 ao1 n1 cp1 e1 s2 ao2 n2 cp2 e2 _ _ (un (sZ a) kP) (un (sZ (a - 1)) kP) (un (loZ a) kP) (un (loZ a) kQ) (un (sZ (utF a)) kP) (un (sZ (utF a)) kQ) (un (hiZ a) kQ) (un (flQ (loZ a) a) 0) (un (flQ (hiZ a) a) 0) (exq (loZ a) a) (exq (hiZ a) a) (isR (loZ a) a) (isR (hiZ a) a) (shN a) (shM a) (shL a) (shH a) w rfl rfl p1 p2 (by have:=ok.lo2;omega) (by have:=ok.hi2;omega) (by show 0<shM a;have:=ok.hi;unfold shM;omega) ?_ ?_ ?_ ?_ ?_ ?_ ?_ ?_ ?_ (fl _ (zR5 a)) ?_ ?_ (fl _ (yU8 a)) ?_ ?_
 ·intro W hW;exact qL (hT.later hW) (Tab.later hI hW) ha (qG2 hfin)
 ·intro W;refine(Dprev hpos hfin W).mono ?_
  rintro r w' ⟨rfl,rfl⟩;exact⟨rfl,xV9 _ _⟩
 ·intro W hW;exact qL (hT.later hW) (Tab.later hI hW) (by omega) (qG2 (by omega))
 ·intro W X Y hW hX hY;exact qF6 (qT0 (p:=kP) (k:=bU) (qH9 _) (qH9 _) (by rw[qG5];omega) dk9.2.1) (hT.later hW) hX hY
 ·intro W X hW hX;exact qB8 (b:=bU+1+1) (zR5 a) dk8 dk9.2.1 dk9.1 yO5 hX
 ·intro W;refine(Dunit ha (qG2 hfin) W).mono ?_
  rintro r w' ⟨rfl,rfl⟩;exact⟨rfl,xV9 _ _⟩
 ·intro W hW;exact qL (hT.later hW) (Tab.later hI hW) (by omega) (qG2 hut)
 ·intro W X hW hX;exact qB8 (b:=bU) (qH9 _) (by rw[qG5];omega) dk9.2.1 dk9.1 yO5 hX
 ·intro W X Y hW hX hY;have e:un (sZ a) kP=un (sZ a*2) kQ:=qH5 (sZ a) kP 1;rw[e] at hX;exact qF6 (qT0 (p:=kQ) (k:=bU+1) (by have:=qH9 a;rw[xH2];omega) (qB1 1 (qH9 _)) (by rw[qG5];omega) dk9.1) (hT.later hW) hX hY
 ·intro W X hW hX;exact wd _ ok.lo ok.lo2 W X hX
 ·intro _ W X hW hX;exact zQ5 (hT.later hW) (zR5 a) hX
 ·intro W X hW hX;exact wd _ (Int.le_of_lt ok.hi) ok.hi2 W X hX
 ·intro _ W X hW hX;exact zQ5 (hT.later hW) (yU8 a) hX
def fwS (L H T:Nat):Nat→Nat→Nat
 | 0,j=>j
 | n+1,j=>if 1<fwU j∧fwL T j<L∧H<fwL T j+fwU j then fwS L H T n (j+1)else j
theorem yZ1 (L H T:Nat):∀ n j,n+j=16→(∀ i,i<j→1<fwU i∧fwL T i<L∧H<fwL T i+fwU i) →
  (∀ i,i<fwS L H T n j→1<fwU i∧fwL T i<L∧H<fwL T i+fwU i)∧¬ (1<fwU (fwS L H T n j)∧fwL T (fwS L H T n j)<L∧H<fwL T (fwS L H T n j)+fwU (fwS L H T n j)):=by
 intro n;induction n with
 | zero =>
  intro j hj h;obtain rfl:j=16:=by omega
  exact⟨h,fun g=>absurd g.1 (by show ¬ 1<fwU 16;decide)⟩
 | succ n ih =>
  intro j hj h;unfold fwS;by_cases c:1<fwU j∧fwL T j<L∧H<fwL T j+fwU j
  ·rw[if_pos c];refine ih (j+1) (by omega) (fun i hi=>?_)
   by_cases e:i=j
   ·rw[e];exact c
   ·exact h i (by omega)
  ·rw[if_neg c];exact⟨h,c⟩
def shJ (a:Nat):Nat:=fwS (shL a) (shH a) (shT a) 16 0
def shA (a:Nat):Bool:=decide (fwU (shJ a)<shT a - 2*fwL (shT a) (shJ a))||(decide (shT a - 2*fwL (shT a) (shJ a)=fwU (shJ a))&&(!shI a||decide (fwL (shT a) (shJ a) / fwU (shJ a) % 2=1)))
def shF (a:Nat):Nat:=if fwL (shT a) (shJ a)<shL a∨(shA a=true∧fwL (shT a) (shJ a)+fwU (shJ a)≤shH a)then fwL (shT a) (shJ a)+fwU (shJ a)else fwL (shT a) (shJ a)
theorem zP5 {a:Nat} (ok:ShOk a):shF a<18446744073709551616:=by
 have h1:=xQ4 (shT a) (shJ a);have h2:=zT2 (shJ a);have h3:=ok.tw2;unfold shF;split <;> omega
theorem yW9 {a:Nat} (ok:ShOk a):shL a<4611686018427387904∧shH a<4611686018427387904:=by
 have h1:=ok.lo2;have h2:=ok.hi2;unfold shL shH;constructor <;> split <;> omega
theorem yT8 {a:Nat} {X S:Value} {w:World} (hT:Tab32 w) (hI:Ie.Tab w) (ok:ShOk a) (hX:PN w X (un (sZ a) kP)) (hS:Fv w S (un ((shO a:Nat):Int) 0) (un ((shU a:Nat):Int) 0)) :
  Calls Tryz.prog 89 #[.float .f64 a,X,S] w fun r w'=>r=.returned (.int .u64 (shF a:Nat))∧Bw w w':=by
 obtain⟨s1,ao1,n1,cp1,e1,s2,ao2,n2,cp2,e2,rfl,p1,p2⟩:=hS;obtain⟨s3,ao3,n3,cp3,e3,rfl⟩:=hX.shape;have hx:=ok.x;obtain⟨t1,t2,t3,t4⟩:=zP0 (pl:=16 - shX a) (by omega) (by omega)
 obtain⟨j1,j2⟩:=yZ1 (shL a) (shH a) (shT a) 16 0 rfl (fun i hi=>absurd hi (Nat.not_lt_zero _));obtain⟨l1,l2⟩:=yW9 ok;have htw:=ok.tw;have htw2:=ok.tw2;refine zE9 a s1 ao1 n1 cp1 e1 s2 ao2 n2 cp2 e2 s3 ao3 n3 cp3 e3 _ _ _ (un (sZ a) kP1) (un (shTz a) 0) (un ((10^16:Nat):Int) 0) (shI a) (shA a) (shL a) (shH a) (shT a) (shJ a) (shF a) w p1 p2 hX l1 l2 (by omega) j1 j2 rfl rfl ?_ ?_ ?_ ?_ ?_ ?_
 ·intro W hW q1 q2;exact yT7 (hT.later hW) (Tab.later hI hW) ok ⟨_,_,_,_,_,_,_,_,_,_,rfl,q1,q2⟩
 ·intro W X hW hX;exact qB8 (b:=bU) (qH9 _) (by rw[qG5];omega) dk9.2.1 dk9.2.2 yU7 hX
 ·intro W X hW q1 q2 hX;exact zG3 (Z:=sZ a) (O:=shO a) (U:=shU a) (p:=kP1) (k:=bU) (l:=dB) (hT.later hW) ⟨_,_,_,_,_,_,_,_,_,_,rfl,q1,q2⟩ hX (qH9 a) t1 t2 t3 dkA
 ·intro W X hW hX;rw[show shTz a=((shT a:Nat):Int) by unfold shT;omega] at hX
  exact yY2 (by omega) hX
 ·intro W hW;exact zG2 (bs:=10) (n:=16) (b:=60) (hT.later hW) (by omega) (by omega) (by omega) (by decide) (by omega) (fun V=>c156 16 (by omega) V)
 ·intro W X hW hX;have e9:fwU 0=10000000000000000:=by decide
  rw[e9];have e8:(10:Nat)^16=10000000000000000:=by decide
  rw[e8] at hX;exact yY2 (N:=10000000000000000) (by decide) hX
def shD (a:Nat):List UInt8:=Lib.trimRightB (dcT (shF a)) 48
def shE (a:Nat):Int:=(dcT (shF a)).length - 1 - (16 - shX a)
theorem zP6 {a:Nat} (ok:ShOk a):(dcT (shF a)).length≤36:=by
 have:=zY0 (N:=shF a) (b:=64) (by rw[show(2:Nat)^64=18446744073709551616 from by decide];exact zP5 ok)
 omega
theorem zM6 (L:List UInt8) (c:UInt8):(Lib.trimRightB L c).length≤L.length:=by
 unfold Lib.trimRightB;rw[List.length_reverse];have:=(List.dropWhile_sublist (fun x=>x==c) (l:=L.reverse)).length_le
 rw[List.length_reverse] at this;exact this
theorem zE5 {a:Nat} {w:World} (hT:Tab32 w) (hI:Ie.Tab w) (ok:ShOk a) :
  Calls Tryz.prog 35 #[.float .f64 a] w fun r w'=>r=.returned (.tuple #[.string ⟨(shD a).toArray⟩,.int .i64 (shE a)])∧Bw w w':=by
 have hx:=ok.x;have hfin:=ok.fin;have hpos:=ok.pos;have hn:neg a=false:=by unfold neg;exact xU0 (by omega)
 have hz:sZ a=((fU a:Nat):Int):=by unfold sZ;rw[hn];rfl
 have hf0:fU a≠0:=by
  intro h0;have h1:mag a=a:=by unfold mag;omega
  have h2:=Ie.mant_ne (a:=a) (by rw[h1];omega)
  unfold fU at h0;rcases Nat.mul_eq_zero.1 h0 with h3|h3
  ·exact h2 h3
  ·exact absurd h3 (Nat.ne_of_gt (xU2 _))
 have hl:=zP6 ok;refine zK6 a (shX a) (shF a) (un (sZ a) kP) (un ((shO a:Nat):Int) 0) (un ((shU a:Nat):Int) 0) (un ((shF a:Nat):Int) 0) (dcT (shF a)) (shD a) w (by omega) (by omega) ?_ ?_ ?_ ?_ ?_ ?_ ?_
 ·intro W hW;exact qL (hT.later hW) (Tab.later hI hW) (by omega) (qG2 hfin)
 ·intro W X hW hX;rw[hz] at hX;exact yH0 (hT.later hW) (qT4 a) hf0 hX
 ·intro W hW;exact zG0 (hT.later hW) (by omega) (by omega) (fun n hn=>klen hn)
 ·intro W X S hW hX hS;exact yT8 (hT.later hW) (Tab.later hI hW) ok hX hS
 ·intro W hW;exact zE8 (hT.later hW) (zP5 ok)
 ·intro W X hW hX;exact qB7 (b:=64) (hT.later hW) (by rw[show(2:Nat)^64=18446744073709551616 from by decide];exact zP5 ok) (by omega) hX
 ·intro W hW;have:=Tryz.strings_TrimRight_one ⟨(dcT (shF a)).toArray⟩ 48 (by decide) W (by show(dcT (shF a)).length≤_;omega)
  refine this.mono ?_;rintro r w' ⟨rfl,rfl⟩;exact⟨rfl,xV9 _ _⟩
def shS (a:Nat):List UInt8:=if shE a < -5∨20<shE a then exL (shD a) (Lib.itoa (shE a))else ptL (shD a) ((shD a).length - 1 - shE a)
theorem yS0 (d t:List UInt8):(exL d t).length≤d.length+t.length+3:=by
 unfold exL;rw[xH7,xH7,List.length_cons,List.length_take];by_cases h:1<d.length
 ·rw[if_pos h,List.length_cons,List.length_drop];omega
 ·rw[if_neg h,List.length_nil];omega
theorem yF6 {a:Nat} (hl2:(shD a).length≤36) (hE : -1000≤shE a∧shE a≤1000):(shS a).length≤20000:=by
 have h1:=Lib.itoa_length_le (shE a) (by omega) (by omega)
 have h3:=yS0 (shD a) (Lib.itoa (shE a));have h2:=zV6 (d:=shD a) (p:=(shD a).length - 1 - shE a);unfold shS;generalize shD a=D at *;generalize shE a=E at *;generalize Lib.itoa E=I at *;by_cases h:E < -5∨20<E
 ·rw[if_pos h];omega
 ·rw[if_neg h];omega
theorem zQ6 {a:Nat} {w:World} (hT:Tab32 w) (hI:Ie.Tab w) (h10:Tab10 w) (ok:ShOk a) (hd:0<(shD a).length) :
  Calls Tryz.prog 12 #[.float .f64 a] w fun r w'=>r=.returned (.string ⟨(shS a).toArray⟩)∧Bw w w':=by
 have hfin:=ok.fin;have hpos:=ok.pos;have hx:=ok.x;have hl:=zP6 ok;have hl2:(shD a).length≤36:=xU7 (zM6 _ _) hl;have hE : -1000≤shE a∧shE a≤1000:=by unfold shE;omega
 obtain⟨c1,c2,c3⟩:=qS (qG2 hfin);have hn:neg a=false:=by unfold neg;exact xU0 (by omega)
 have hlen:(shS a).length≤20000:=yF6 hl2 hE;have e:sgL (neg a) (shS a)=shS a:=by unfold sgL;rw[hn,if_neg (by decide)]
 rw[←e];refine zJ a _ w ?_;intro W g1 hW b1;have kC:=fun V=>Ie.c9 a (by omega) V
 rw[c3] at kC;refine qG6 a _ _ (neg a) _ _ W c1 c2 hlen kC (qZ4 Tryz.func34 (by kernel_rfl) (by kernel_rfl)) ?_
 refine zA a a (shE a) (shD a) (shS a) g1 W b1 ?_ (by omega) (by omega) (fun V=>?_) ?_ ?_ ?_
 ·have q3:=zM1 (a:=a) (by omega)
  have h1:mag a≠0:=by unfold mag;omega
  rw[xU0 h1] at q3;have e9:(FloatKind.f64.format.order a 0 != some Ordering.eq) = !(FloatKind.f64.format.order a 0==some Ordering.eq):=rfl;rw[e9] at q3;simpa using q3
 ·have h1:mag a=a:=by unfold mag;omega
  have:=c159 a (by omega) V
  rw[h1] at this;exact this
 ·exact zE5 (hT.later hW) (Tab.later hI hW) ok
 ·intro hc V hV;unfold shS;rw[if_pos hc];exact qA0 (shD a) (Lib.itoa (shE a)) (shE a) V hd (by omega) (by have:=Lib.itoa_length_le (shE a) (by omega) (by omega);show(Lib.itoa (shE a)).length≤100;omega) (fun U hU=>yK4 (by omega) (((h10.later hW).later hV).later hU))
 ·intro hc V hV;unfold shS;rw[if_neg hc];exact qE9 (by omega) (by omega) (knz V)
def rdA (s:List UInt8) (m:Int):Nat×Int :=
 if ¬ (1≤m∧m≤3) then(0,1)else if 1048576<s.length then(0,2)
 else if csD s = [105,110,102] then((if csS s<0 then 18442240474082181120 else 9218868437227405312),0)else if csD s = [110,97,110] then(9221120237041090561,0)
 else if psOk (csD s)=false then(0,3)else if 1100<(psD (csD s)).length then(0,2)
 else(rdFl (decide (csS s<0)) (psb (csD s)) (psD (csD s)) (psH (csD s)) (psX (csD s)) m,0)
theorem xQ8 (E:List UInt8) : -6000≤exX E∧exX E≤6000:=by
 unfold exX;split
 ·have h:=yV9 (csD E) (csD E).length;have hsg:csS E=1∨csS E = -1:=by unfold csS;split <;> simp
  rcases hsg with h1|h1 <;> rw[h1] <;> omega
 ·omega
theorem yI (L:List UInt8) : -6000≤psX L∧psX L≤6000:=by
 unfold psX;split
 ·exact xQ8 _
 ·omega
theorem yA9 (L:List UInt8):(psb L=((10:Nat):Int)∧True)∨(psb L=((16:Nat):Int)∧True):=by
 unfold psb;split
 ·exact .inr ⟨rfl,trivial⟩
 ·exact .inl ⟨rfl,trivial⟩
theorem yN6 {L:List UInt8} (h:psOk L=true):qN6 (psD L) (psb L)=true:=by
 unfold psOk at h;rw[xG7] at h;have h2:=h.2;unfold dgO at h2;rw[xG7] at h2;exact h2.1
theorem yI0 (L:List UInt8):psH L≤(psD L).length:=by unfold psH psD;rw[xH7];omega
theorem yT9 {s:List UInt8} {m:Int} {w:World} (hT:Tab32 w) :
  Calls Tryz.prog 8 #[.string ⟨s.toArray⟩,.int .i64 m] w fun r w'=>r=.returned (.tuple #[.float .f64 (rdA s m).1,.int .i64 (rdA s m).2])∧Bw w w':=by
 unfold rdA;have k0:=qS3 m;by_cases hm:1≤m∧m≤3
 ·rw[if_neg (not_not_intro hm)];rw[xU1 hm] at k0;by_cases hL:1048576<s.length
  ·rw[if_pos hL];exact zB9 s m w hL k0
  ·rw[if_neg hL];have kC:=fun W=>zG4 s W (by omega)
   have hdl:=zW3 s;have hsg:csS s=1∨csS s = -1:=by unfold csS;split <;> simp
   by_cases h1:csD s = [105,110,102]
   ·rw[if_pos h1];refine zA1 s (csD s) m (csS s) _ w (by omega) k0 kC h1 (fun W=>?_)
    rcases hsg with e|e
    ·rw[e,if_neg (by decide)];exact xX3 W
    ·rw[e,if_pos (by decide)];exact xX4 W
   ·rw[if_neg h1];by_cases h2:csD s = [110,97,110]
    ·rw[if_pos h2];exact zA0 s (csD s) m (csS s) _ w (by omega) k0 kC h2 (fun W=>Ie.c52 W)
    ·rw[if_neg h2];have g1:(csD s == [105,110,102])=false:=by rw[xH];exact h1
     have g2:(csD s == [110,97,110])=false:=by rw[xH];exact h2
     by_cases h3:psOk (csD s)=false
     ·rw[if_pos h3];refine zN s (csD s) m (csS s) w (by omega) k0 kC g1 g2 (fun W hW=>?_)
      refine(yH2 (csD s) W (by omega)).mono ?_
      rintro r w' ⟨b',D,h,x,rfl,-,hb⟩;exact⟨b',D,h,x,by rw[h3],hb⟩
     ·rw[if_neg h3];have h3':psOk (csD s)=true:=by simpa using h3
      have kS:∀ W,Calls Tryz.prog 27 #[.string ⟨(csD s).toArray⟩] W fun r w'=>r=.returned (.tuple #[.agg #[.int .i64 (psb (csD s)),.string ⟨(psD (csD s)).toArray⟩,.int .i64 (psH (csD s):Int),.int .i64 (psX (csD s))],.bool true])∧Bw W w':=fun W=>by
       refine(yH2 (csD s) W (by omega)).mono ?_
       rintro r w' ⟨b',D,h,x,rfl,hh,hb⟩;obtain⟨e1,e2,e3,e4⟩:=hh h3';exact⟨by rw[e1,e2,e3,e4,h3'],hb⟩
      by_cases h4:1100<(psD (csD s)).length
      ·rw[if_pos h4];exact zQ7 s (csD s) (psD (csD s)) m (csS s) _ _ _ w (by omega) k0 kC g1 g2 (fun W _=>kS W) h4
      ·rw[if_neg h4];refine yJ0 s (csD s) (psD (csD s)) m (csS s) _ _ _ w (by omega) k0 kC g1 g2 (fun W _=>kS W) _ (by omega) (fun W hW=>?_)
       have hdg:=yN6 h3';have hx:=yI (csD s);have hh:=yI0 (csD s);rcases yA9 (csD s)with ⟨e,-⟩|⟨e,-⟩
       ·rw[e] at hdg ⊢;exact zG1 (hT.later hW) (.inl rfl) hdg (by omega) (by omega) hx hm
       ·rw[e] at hdg ⊢;exact zG1 (hT.later hW) (.inr rfl) hdg (by omega) (by omega) hx hm
 ·rw[if_pos hm];rw[xU0 hm] at k0;exact zB8 s m w k0
theorem wk_1:rdA [48,46,49] 2=(4591870180066957722,0):=by decide +kernel
theorem wk_2:rdA [45,49,101,45,52,48,48] 1=(9223372036854775809,0):=by decide +kernel
theorem wk_3:(rdA [49,120] 2).2=3:=by decide +kernel
theorem wk_4:sgL (neg 4612811918334230528) (ptL (dcT (uN 4612811918334230528 0 2)) 0) = [50]:=by decide +kernel
theorem wk_5:sgL (neg 4602678819172646912) (ptL (dcT (uN 4602678819172646912 (exP 4602678819172646912) 2)) (exP 4602678819172646912)) = [48,46,53]:=by decide +kernel
theorem wk_6:sgL (neg 4591870180066957722) (hxT 4591870180066957722) = [48,120,49,46,57,57,57,57,57,57,57,57,57,57,57,57,97,112,45,52]:=by decide +kernel
theorem wk_7:ShOk 4599075939470750515:=⟨by decide,by decide,by decide +kernel,by decide +kernel,by decide +kernel,by decide +kernel,by decide +kernel,by decide +kernel,by decide +kernel⟩
theorem wk_8:ShOk 4921056587992461136:=⟨by decide,by decide,by decide +kernel,by decide +kernel,by decide +kernel,by decide +kernel,by decide +kernel,by decide +kernel,by decide +kernel⟩
theorem wk_9:shS 4599075939470750515 = [48,46,51]∧0<(shD 4599075939470750515).length:=by decide +kernel
theorem wk_A:shS 4921056587992461136 = [49,101,50,49]∧0<(shD 4921056587992461136).length:=by decide +kernel
theorem Dlike (a b:Nat) (ha:a<18446744073709551616) (hb:b<18446744073709551616) (w:World) :
  Calls Tryz.prog 10 #[.float .f64 a,.float .f64 b] w fun r w'=>r=.returned (.bool (same a b))∧w'=w:=by
 have kb:=Ie.run_bits;have q1:=qC2 a ha;have q2:=qC2 b hb;have e:same a b=(((a:Int)==(b:Int))||(qK2 a&&qK2 b)):=rfl;rw[e];clear e;cases ha':qK2 a
 ·rw[ha'] at q1;clear q2 ha'
  go_enter Tryz.func10,Tryz.ntmps10
  go_wp2
  go_ret;exact⟨by simp,rfl⟩
 ·rw[ha'] at q1;clear ha';cases hb':qK2 b
  ·rw[hb'] at q2;clear hb'
   go_enter Tryz.func10,Tryz.ntmps10
   go_wp2
   go_ret;exact⟨by simp,rfl⟩
  ·rw[hb'] at q2;clear hb'
   go_enter Tryz.func10,Tryz.ntmps10
   go_wp2
   go_ret;exact⟨by simp,rfl⟩
theorem zH (a:Nat):same a a=true:=by unfold same;simp
theorem yY1 (e3:Nat) (w:World)
  (k1:∀ W,Bw w W→Calls Tryz.prog 8 #[.string ⟨#[48,46,49]⟩,.int .i64 2] W fun r w'=>r=.returned (.tuple #[.float .f64 4591870180066957722,.int .i64 0])∧Bw W w')
  (k2:∀ W,Bw w W→Calls Tryz.prog 8 #[.string ⟨#[45,49,101,45,52,48,48]⟩,.int .i64 1] W fun r w'=>r=.returned (.tuple #[.float .f64 9223372036854775809,.int .i64 0])∧Bw W w')
  (k3:∀ W,Bw w W→Calls Tryz.prog 8 #[.string ⟨#[49,120]⟩,.int .i64 2] W fun r w'=>r=.returned (.tuple #[.float .f64 e3,.int .i64 3])∧Bw W w')
  (k4:∀ W,Bw w W→Calls Tryz.prog 18 #[.float .f64 4612811918334230528,.int .i64 0,.int .i64 2] W fun r w'=>r=.returned (.tuple #[.string ⟨#[50]⟩,.int .i64 0])∧Bw W w')
  (k5:∀ W,Bw w W→Calls Tryz.prog 12 #[.float .f64 4599075939470750515] W fun r w'=>r=.returned (.string ⟨#[48,46,51]⟩)∧Bw W w')
  (k6:∀ W,Bw w W→Calls Tryz.prog 12 #[.float .f64 4921056587992461136] W fun r w'=>r=.returned (.string ⟨#[49,101,50,49]⟩)∧Bw W w')
  (k7:∀ W,Bw w W→Calls Tryz.prog 16 #[.float .f64 4591870180066957722] W fun r w'=>r=.returned (.string ⟨#[48,120,49,46,57,57,57,57,57,57,57,57,57,57,57,57,97,112,45,52]⟩)∧Bw W w')
  (k8:∀ W,Bw w W→Calls Tryz.prog 14 #[.float .f64 4602678819172646912] W fun r w'=>r=.returned (.string ⟨#[48,46,53]⟩)∧Bw W w')
  (m1:∀ W,Calls Tryz.prog 10 #[.float .f64 4591870180066957722,.float .f64 4591870180066957722] W fun r w'=>r=.returned (.bool true)∧w'=W)
  (m2:∀ W,Calls Tryz.prog 10 #[.float .f64 9223372036854775809,.float .f64 9223372036854775809] W fun r w'=>r=.returned (.bool true)∧w'=W) :
  Calls Tryz.prog 11 #[] w fun r w'=>r=.returned (.bool true)∧Bw w w':=by
 have q1:=k1 w (xV9 _ _);have K2:Hid _:=k2;have K3:Hid _:=k3;have K4:Hid _:=k4;have K5:Hid _:=k5;have K6:Hid _:=k6;have K7:Hid _:=k7;have K8:Hid _:=k8;clear k1 k2 k3 k4 k5 k6 k7 k8
 go_enter Tryz.func11,Tryz.ntmps11
 go_wp2_with fail;refine q1.mono ?_;rintro r w1 ⟨rfl,b1⟩;have B1:Hid (Bw w w1):=b1;have q2:=K2.out w1 b1;clear q1 b1 K2
 go_wp2_with fail;refine q2.mono ?_;rintro r w2 ⟨rfl,b2⟩;have B2:Hid (Bw w w2):=B1.out.trans (b2.mono B1.out.size);have q3:=K3.out w2 B2.out;clear q2 b2 B1 K3
 go_wp2_with fail;refine q3.mono ?_;rintro r w3 ⟨rfl,b3⟩;have B3:Hid (Bw w w3):=B2.out.trans (b3.mono B2.out.size);have q4:=K4.out w3 B3.out;clear q3 b3 B2 K4
 go_wp2_with fail;refine q4.mono ?_;rintro r w4 ⟨rfl,b4⟩;have B4:Hid (Bw w w4):=B3.out.trans (b4.mono B3.out.size);have q5:=K5.out w4 B4.out;clear q4 b4 B3 K5
 go_wp2_with fail;refine(m1 _).mono ?_
 rintro r w' ⟨rfl,hw⟩;replace hw:=hw.symm;subst hw;clear m1
 go_wp2_with fail;refine(m2 _).mono ?_
 rintro r w' ⟨rfl,hw⟩;replace hw:=hw.symm;subst hw;clear m2
 go_wp2_with fail;refine q5.mono ?_;rintro r w5 ⟨rfl,b5⟩;have B5:Hid (Bw w w5):=B4.out.trans (b5.mono B4.out.size);have q6:=K6.out w5 B5.out;clear q5 b5 B4 K6
 go_wp2_with fail;refine q6.mono ?_;rintro r w6 ⟨rfl,b6⟩;have B6:Hid (Bw w w6):=B5.out.trans (b6.mono B5.out.size);have q7:=K7.out w6 B6.out;clear q6 b6 B5 K7
 go_wp2_with fail;refine q7.mono ?_;rintro r w7 ⟨rfl,b7⟩;have B7:Hid (Bw w w7):=B6.out.trans (b7.mono B6.out.size);have q8:=K8.out w7 B7.out;clear q7 b7 B6 K8
 go_wp2_with fail;refine q8.mono ?_;rintro r w8 ⟨rfl,b8⟩;have B8:Hid (Bw w w8):=B7.out.trans (b8.mono B7.out.size);clear q8 b8 B7
 go_wp2
 go_ret;exact⟨rfl,B8.out⟩
theorem xJ9 {w:World} (hT:Tab32 w) (hI:Ie.Tab w) (h10:Tab10 w):Calls Tryz.prog 11 #[] w fun r w'=>r=.returned (.bool true)∧Bw w w':=by
 have like:∀ a,a<18446744073709551616→∀ W,Calls Tryz.prog 10 #[.float .f64 a,.float .f64 a] W fun r w'=>r=.returned (.bool true)∧w'=W:=fun a ha W=>by
  have:=Dlike a a ha ha W
  rw[zH] at this;exact this
 refine yY1 (rdA [49,120] 2).1 w ?_ ?_ ?_ ?_ ?_ ?_ ?_ ?_ (like _ (by decide)) (like _ (by decide))
 ·intro W hW;have:=yT9 (s := [48,46,49]) (m:=2) (hT.later hW)
  rw[wk_1] at this;exact this
 ·intro W hW;have:=yT9 (s := [45,49,101,45,52,48,48]) (m:=1) (hT.later hW)
  rw[wk_2] at this;exact this
 ·intro W hW;have:=yT9 (s := [49,120]) (m:=2) (hT.later hW)
  rw[wk_3] at this;exact this
 ·intro W hW;have:=yH3 (a:=4612811918334230528) (pl:=0) (m:=2) (hT.later hW) (Tab.later hI hW) (by decide) (by decide) (by decide) (by decide) (by decide)
  rw[wk_4] at this;exact this
 ·intro W hW;have:=zQ6 (hT.later hW) (Tab.later hI hW) (h10.later hW) wk_7 wk_9.2
  rw[wk_9.1] at this;exact this
 ·intro W hW;have:=zQ6 (hT.later hW) (Tab.later hI hW) (h10.later hW) wk_8 wk_A.2
  rw[wk_A.1] at this;exact this
 ·intro W hW;have:=DHex (a:=4591870180066957722) (Tab.later hI hW) (h10.later hW) (by decide) (by decide)
  rw[wk_6] at this;exact this
 ·intro W hW;have:=xV7 (a:=4602678819172646912) (hT.later hW) (Tab.later hI hW) (by decide) (by decide)
  rw[wk_5] at this;exact this
end Go.Proofs.YtkcmhaknalomjaaGreatDoor
namespace Go.Proofs.YtkcmhaknalomjaaGreatDoor
open Go.RowKit Go.Fl64
theorem zU9 (m:Int) (w:World) :
  Calls Tryz.prog 29 #[.int .i64 m] w fun r w'=>r=.returned (.bool (decide (1≤m∧m≤3)))∧w'=w:=by
 by_cases h1:1≤m
 ·by_cases h3:m≤3
  ·rw[xU1 ⟨h1,h3⟩]
   go_enter Tryz.func29,Tryz.ntmps29
   go_wp2
   go_ret;exact⟨rfl,rfl⟩
  ·rw[xU0 (fun h=>h3 h.2)]
   go_enter Tryz.func29,Tryz.ntmps29
   go_wp2
   go_ret;exact⟨rfl,rfl⟩
 ·rw[xU0 (fun h=>h1 h.1)]
  go_enter Tryz.func29,Tryz.ntmps29
  go_wp2
  go_ret;exact⟨rfl,rfl⟩
end Go.Proofs.YtkcmhaknalomjaaGreatDoor
namespace Go.Proofs.YtkcmhaknalomjaaGreatDoor
open Go Go.RowKit Go.Fl64
theorem yZ6 (F:Nat) (s:Bool) (w:World)
  (ks:∀ W,Calls Tryz.prog 63 #[.float .f64 F] W fun r w'=>r=.returned (.bool s)∧w'=W)
  (o1:(FloatKind.f64.format.order F F != some Ordering.eq)=false) (o2:(FloatKind.f64.format.order F 9218868437227405311==some Ordering.gt)=false)
  (o3:(FloatKind.f64.format.order F 18442240474082181119==some Ordering.lt)=false) :
  Calls Tryz.prog 38 #[.float .f64 F] w fun r w'=>r=.returned (.tuple #[.string (if s then⟨#[45]⟩ else⟨#[]⟩),.bool false])∧w'=w:=by
 cases s
 ·go_enter Tryz.func38,Tryz.ntmps38
  go_wp2_with (go_at_call 63;refine(ks _).mono ?_;rintro r w' ⟨rfl,hw⟩;replace hw:=hw.symm;subst hw)
  refine xG6 (xF rfl _ _ _) rfl ?_;exact⟨rfl,rfl⟩
 ·go_enter Tryz.func38,Tryz.ntmps38
  go_wp2_with (go_at_call 63;refine(ks _).mono ?_;rintro r w' ⟨rfl,hw⟩;replace hw:=hw.symm;subst hw)
  refine xG6 (xF rfl _ _ _) rfl ?_;exact⟨rfl,rfl⟩
theorem yG3 {F:Nat} (hF:F<18446744073709551616) (hm:mag F<9218868437227405312) (w:World) :
  Calls Tryz.prog 38 #[.float .f64 F] w fun r w'=>r=.returned (.tuple #[.string (if neg F then⟨#[45]⟩ else⟨#[]⟩),.bool false])∧w'=w:=by
 have hb : -9218868437227405311≤stp F∧stp F≤9218868437227405311:=by
  unfold stp sgn;split <;> omega
 have e1:stp 9218868437227405311=9218868437227405311:=by decide
 have e2:stp 18442240474082181119 = -9218868437227405311:=by decide
 refine yZ6 F (neg F) w (fun W=>Ie.c33 F hF W) ?_ ?_ ?_
 ·show(!(FloatKind.f64.format.order F F==some Ordering.eq))=false
  rw[qA9 F F hF hF];unfold eq qK2;simp
  omega
 ·rw[yU3 F _ hF (by decide)]
  unfold lt;rw[e1];rw[xU0 (show ¬ (9218868437227405311:Int)<stp F by omega)]
  simp
 ·rw[yU2 F _ hF (by decide)]
  unfold lt;rw[e2];rw[xU0 (show ¬ stp F<(-9218868437227405311:Int) by omega)]
  simp
theorem qV8 (a:Act) (v:Value):a.eval (.const v)=v:=rfl
def BC (U:World) (v:Value) (L:List UInt8):Prop:=∃ ao cap,v=.slice ao L.length cap∧(L ≠ []→∃ g,ao=some ⟨g,0,none⟩∧∀ i (h:i<L.length),U.cell? ⟨g,i,none⟩=some (.int .u8 (L[i].toNat:Int)))
theorem BC.later {U U':World} {v:Value} {L:List UInt8} (h:BC U v L) (hb:Bw U U'):BC U' v L:=by
 obtain⟨ao,cap,h1,h2⟩:=h;refine⟨ao,cap,h1,fun hL=>?_⟩
 obtain⟨g,h3,h4⟩:=h2 hL;exact⟨g,h3,fun i hi=>(hb.cell (World.block_lt_of_cell? _ _ (h4 i hi))).trans (h4 i hi)⟩
theorem OB.bc {w wr:World} {v:Value} {L:List UInt8} (h:OB w wr v L):BC wr v L:=by
 obtain⟨⟨hlen,h|⟨g,cp,cur,rfl,hg1,hg2,hg3,hg4,hg5,hg6⟩⟩,hBB⟩:=h
 ·have hl:=h.2;exact⟨none,0,by rw[h.1,hl],fun hL=>absurd (List.length_eq_zero_iff.1 hl) hL⟩
 ·refine⟨_,_,rfl,fun hL=>⟨g,rfl,fun i hi=>?_⟩⟩
  rw[Lib.cell_of_heap hg2];have h8:(cur.toList.take (L.length*1))[i]?=(Lib.byteCells L)[i]?:=by rw[hg6]
  rw[List.getElem?_take_of_lt (by omega)] at h8
  rw[←Array.getElem?_toList,h8];simp[Lib.byteCells,hi]
theorem yX (w:World) (ao:Option Addr) (cap:Nat):(convert 79 9 (.slice ao 0 cap)).run Tryz.prog w=.ok (.string ⟨#[]⟩) w:=by
 cases ao with
 | some a=>exact run_convert_bytes_back (P:=Tryz.prog) w 79 9 5 a cap [] Tryz.underlying79 Tryz.underlying5 Tryz.underlying9 (fun j hj=>absurd hj (Nat.not_lt_zero _))
 | none =>
  rw[run_convert_bytes_string w 79 9 5 none 0 cap Tryz.underlying79 Tryz.underlying5 Tryz.underlying9];rfl
theorem BC.conv {U:World} {v:Value} {L:List UInt8} (h:BC U v L):(convert 79 9 v).run Tryz.prog U=.ok (.string ⟨L.toArray⟩) U:=by
 obtain⟨ao,cap,rfl,h2⟩:=h;by_cases hL:L = []
 ·subst hL;exact yX U ao cap
 ·obtain⟨g,rfl,h4⟩:=h2 hL;exact run_convert_bytes_back (P:=Tryz.prog) U 79 9 5 ⟨g,0,none⟩ cap L Tryz.underlying79 Tryz.underlying5 Tryz.underlying9 (fun i hi=>by
   have ea:(⟨g,0,none⟩:Addr).add i=⟨g,i,none⟩:=by simp[Addr.add,eq_comm]
   rw[ea];exact h4 i hi)
theorem d4nz (n:Int) (w:World) (hn:n≤100000):Calls Tryz.prog 41 #[.int .i64 n] w fun r w'=>r=.returned (.string ⟨(nzL n).toArray⟩)∧Bw w w':=by
 obtain⟨i0,hi0,hz0,hz1,hz2⟩:=info_parts qO9
 go_enter Tryz.func41,Tryz.ntmps41
 go_wp2
 go_loopw [3,4] (fun v x wr=>∃ i:Nat,i≤n.toNat∧x=.int .i64 (i:Nat)∧Hid (OB w wr v (List.replicate i 48))) (fun _ x _=>n.toNat - (intOf x).toNat)
 case atStart=>exact⟨0,xG2 _,rfl,(⟨World.ownsRow_nil ..,xV9 _ _⟩:OB w w _ [])⟩
 case round =>
  obtain⟨i,hi,rfl,HO⟩:=hrel;obtain⟨L,hLL⟩:∃ L,L=List.replicate i (48:UInt8):=⟨_,rfl⟩;rw[←hLL] at HO;have hlen:L.length≤100000:=by rw[hLL,List.length_replicate];omega
  have HL:Hid (L=List.replicate i 48):=hLL;clear hLL;obtain⟨ao,ca,hsh⟩:=HO.out.shape;subst hsh;have HSZ:Hid (w.heap.size≤wr.heap.size):=HO.out.2.size;by_cases hin:i<n.toNat
  ·have hii:(i:Int)<n:=by omega
   have hwi:IntKind.i64.wrap ((i:Int)+1)=(i:Int)+1:=by rw[xG3];omega
   go_wp2_with (at_builtin;refine wpList_append_own _ rfl _ _ 79 rfl w.heap.size 5 i0 (.int .u8 0) 1 1 Tryz.underlying79 hi0 hz0 hz1 hz2 rfl (by decide) _ _ _ rfl (HO.out.1.alloc _) ⟨wr.heap.size,0,none⟩ 1 1 [.int .u8 48] rfl rfl (cell_one_new _ _ _) (by intro u hu;simp at hu;subst hu;rfl) (by unfold maxLen;omega) (by have:=HSZ.out;omega) (by simp;have:=HSZ.out;omega) ?_)
   intro v' w4 hown4 hgrow _;have HFF:=HO.out.push (c:=48) (by decide) hown4 hgrow
   have HF3:Hid (OB w w4 v' (List.replicate (i+1) 48)):=by rw[List.replicate_succ',←HL.out];exact HFF
   clear HFF hown4 hgrow
   go_wp2_with fail;exact⟨⟨i+1,by omega,by congr 1,HF3⟩,by simp[intOf];omega⟩
  ·have hii:¬ (i:Int)<n:=by omega
   have hcv:=HO.out.bc.conv;have HB:Hid (Bw w wr):=HO.out.2;have HE:Hid (L=nzL n):=(by rw[HL.out];unfold nzL;congr 1;omega:L=nzL n)
   clear HO HSZ HL
   go_wp2_with fail
   go_ret;exact⟨by rw[←HE.out];rfl,HB.out⟩
end Go.Proofs.YtkcmhaknalomjaaGreatDoor
