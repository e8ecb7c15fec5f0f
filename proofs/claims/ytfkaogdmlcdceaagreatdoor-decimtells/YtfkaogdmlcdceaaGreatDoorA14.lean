/- Own work: contracts of the program's functions, part 14: DCF DCG DCH DCI DCJ DCK DCL DCM DCN DIA DCV DCO DCP DCQ DCR DCS. -/
import Derived.Test.YtfkaogdmlcdceaaGreatDoorA13
import Derived.Test.YtfkaogdmlcdceaaGreatDoorA10
import Derived.Laws.RangeAny
import Derived.Laws.Runes
import Derived.WalkMore
import Derived.Lib.OthersKept
import Derived.Test.YtfkaogdmlcdceaaGreatDoorA12
import Derived.BigQuiet

set_option maxHeartbeats 16000000
set_option maxRecDepth 200000
set_option linter.unusedVariables false
set_option linter.unusedSimpArgs false
namespace Go.Proofs.YtfkaogdmlcdceaaGreatDoor
open Go.RowKit Go.Fl64
attribute [local go_sem] iV Nu
theorem qK1 {w V:World} {g:Nat} {v:Value} {T:TypeId} (h:w.heap[g]?=some (.cells #[v] T (0,0))) (u:Bw w V):V.cell? ⟨g,0,none⟩=some (v):=by
 have Y:=qQ0 h u (qQ7 h);simp[World.cell?,Y]
theorem zB7 {Q:Exit→Act→World→Prop} {o:Oper} {K:Act→World→Prop} {a:Act} {w:World} {s:Tmp} {g f:Nat} {x:Int} (u:o.op=.load 3 (.tmp s)) (Y:a.tmps[s]?=some (.pointer (some ⟨g,f,none⟩))) (J:w.cell? ⟨g,f,none⟩=some (iV x)) (h:K (a.put o.dst (iV x)) w):o.wp Tryz.prog a w K Q :=
 qZ6 (w':=w) (by simp[execOp,u,Act.eval,Y,J,go_sem]) h
theorem xG0 {a:Act} {s t r:Tmp} {v u c:Value} (h:a.tmps[s]?=some v) (J:a.tmps[t]?=some u) (Y:a.tmps[r]?=some c) : #[Operand.tmp s,Operand.tmp t,Operand.tmp r].map a.eval = #[v,u,c]:=by simp[qZ1 h,qZ1 J,qZ1 Y]
theorem yB7 (f:Nat) (p m:Int) (I:Bool×Nat×Int) (d t:List UInt8) (g1 g2 g3:Nat) (w:World)
  (h1:w.heap[g1]?=some (.cells #[.float .f64 f] 22 (0,0))) (h2:w.heap[g2]?=some (.cells #[iV p] 3 (0,0))) (h3:w.heap[g3]?=some (.cells #[iV m] 3 (0,0)))
  (k1:Hid (∀ W,Bw w W→Ca 34 #[.float .f64 f,iV p,iV m] W fun r w'=>OutA W I r w'))
  (k2:Hid (∀ W X,Bw w W→PN W X I→Ca 33 #[X] W (Rq W (.string ⟨d.toArray⟩))))
  (k3:Hid (∀ W,Bw w W→Ca 26 #[.string ⟨d.toArray⟩,iV p] W (Rq W (.string ⟨t.toArray⟩)))) :
  Ca 115 #[.pointer (some ⟨g1,0,none⟩),.pointer (some ⟨g2,0,none⟩),.pointer (some ⟨g3,0,none⟩)] w (Rq w (.string ⟨t.toArray⟩)):=by
 have L:Hid _:=aI3 h1 h2 h3;clear h1 h2 h3
 go_enter Tryz.func115,Tryz.ntmps115
 go_upto_region 1 with fail;refine qJ2 [0,1,2,3,4,5,6,7] [4,5,6,7,8,9,10,3] [[],[],[],[0,1,2],[3],[],[4,5],[6]] w _ [isV (.float .f64 f),isV (iV p),isV (iV m),isP I,isV (.string ⟨d.toArray⟩),isV (iV p),isV (.string ⟨t.toArray⟩),isV (.string ⟨t.toArray⟩)] (by kernel_rfl) ⟨qQ2 _,qQ2 _,qQ2 _,qX4 _,qQ2 _,qQ2 _,qQ2 _,qQ2 _,trivial⟩ (by show ∀ s ∈ [4,5,6,7,8,9,10,3],s<11;decide) ?_ ?_
 ·intro j hj o H act U F J Y;have qY:j<8:=hj;have qZ:act.tmps[(0:Nat)]?=some (Value.pointer (some ⟨g1,0,none⟩)):=(J 0 δ).trans rfl;have D:act.tmps[(1:Nat)]?=some (Value.pointer (some ⟨g2,0,none⟩)):=(J 1 δ).trans rfl;have qQ:act.tmps[(2:Nat)]?=some (Value.pointer (some ⟨g3,0,none⟩)):=(J 2 δ).trans rfl;have d0:=qK1 L.out.1 F;have d1:=qK1 L.out.2.1 F;have d2:=qK1 L.out.2.2 F;rcases(by omega:j=0∨j=1∨j=2∨j=3∨j=4∨j=5∨j=6∨j=7)with rfl|rfl|rfl|rfl|rfl|rfl|rfl|rfl
  ·obtain rfl:=kF0 H;exact .inl ⟨rfl,xV4 rfl qZ d0 ⟨_,rfl,rfl,kH9 _ _⟩⟩
  ·obtain rfl:=kF0 H;exact .inl ⟨rfl,zB7 rfl D d1 ⟨_,rfl,rfl,kH9 _ _⟩⟩
  ·obtain rfl:=kF0 H;exact .inl ⟨rfl,zB7 rfl qQ d2 ⟨_,rfl,rfl,kH9 _ _⟩⟩
  ·obtain rfl:=kF0 H;have y0:act.tmps[(4:Nat)]?=_:=dV (Y 0 (by simp[dL])) rfl
   have y1:act.tmps[(5:Nat)]?=_:=dV (Y 1 (by simp[dL])) rfl
   have y2:act.tmps[(6:Nat)]?=_:=dV (Y 2 (by simp[dL])) rfl
   refine .inl ⟨rfl,qQ9 rfl (qZ4 Tryz.func34 (by kernel_rfl) (by kernel_rfl)) (xG0 y0 y1 y2) ?_⟩
   refine(k1.out U F).mono ?_
   rintro r w' ⟨_,_,_,_,_,rfl,hA,V⟩;exact⟨_,rfl,_,rfl,hA,V⟩
  ·obtain rfl:=kF0 H;obtain⟨u3,y3,v3⟩:=Y 3 (by simp[dL])
   have C:act.tmps[(7:Nat)]?=_:=y3;refine .inl ⟨rfl,qQ9 rfl (qZ4 Tryz.func33 (by kernel_rfl) (by kernel_rfl)) (qN4 C) ?_⟩
   refine(k2.out U _ F v3).mono ?_
   rintro r w' ⟨rfl,V⟩;exact⟨_,rfl,_,rfl,rfl,V⟩
  ·obtain rfl:=kF0 H;exact .inl ⟨rfl,zB7 rfl D d1 ⟨_,rfl,rfl,kH9 _ _⟩⟩
  ·obtain rfl:=kF0 H;have y4:act.tmps[(8:Nat)]?=_:=dV (Y 4 (by simp[dL])) rfl
   have y5:act.tmps[(9:Nat)]?=_:=dV (Y 5 (by simp[dL])) rfl
   refine .inl ⟨rfl,qQ9 rfl (qZ4 Tryz.func26 (by kernel_rfl) (by kernel_rfl)) (map2 y4 y5) ?_⟩
   refine(k3.out U F).mono ?_
   rintro r w' ⟨rfl,V⟩;exact⟨_,rfl,_,rfl,rfl,V⟩
  ·obtain rfl:=kF0 H;have y6:act.tmps[(10:Nat)]?=_:=dV (Y 6 (by simp[dL])) rfl
   exact .inl ⟨rfl,qX5 rfl y6 ⟨_,rfl,rfl,kH9 _ _⟩⟩
 ·intro u W5 T hu;have u7:u 7=.string ⟨t.toArray⟩:=hu 7 (by show 7<8;decide)
  have HB:Hid _:=T;clear hu T k1 k2 k3 L;simp only[putL,show List.range 8 = [0,1,2,3,4,5,6,7] from rfl,show List.range 8 = [0,1,2,3,4,5,6,7] from rfl,kG2,kG3,kG4,kG5,kH2,kH3,kH0,kG9,List.foldl_cons,List.foldl_nil,Nat.reduceLT,Nat.reduceMod,Nat.reduceDiv,Nat.reduceMul,Nat.reduceAdd,Nat.reduceEqDiff,reduceIte,kG8,Act.put,kU9,kG0,kG1];rw[u7];clear u7
  go_wp2
  go_ret;exact⟨rfl,HB.out⟩
theorem kU3 (f:Nat) (p m:Int) (b:Bool) (w:World)
  (k1:∀ W,Ca 51 #[iV m] W fun r w'=>r=.returned (.bool b)∧w'=W) (u:b=false∨p<0∨1100<p) :
  Ca 50 #[.float .f64 f,iV p,iV m] w (Rq w (.tuple #[.string ⟨#[]⟩,iV 1])):=by
 obtain⟨W,Y⟩:=eE (((w.alloc (.cells #[.float .f64 f] 22)).alloc (.cells #[iV p] 3)).alloc (.cells #[iV m] 3));obtain⟨F,m2,H,V⟩:=qF4 _ _ _ Y;have L:=qK1 F bR;have c2:=qK1 m2 bR;have T:=qK1 H bR;have J:Hid _:=V;clear F m2 H V;cases b
 ·clear u
  go_enter Tryz.func50,Tryz.ntmps50
  go_upto_region 1 with fail;rw[←Y];clear Y
  go_wp2_with (first|(go_at_call 51;refine(k1 _).mono ?_;rintro e w' ⟨rfl,rfl⟩))
  refine kB8 (kM3 rfl _ _ _) rfl ?_;exact⟨rfl,J.out⟩
 ·rcases(by simpa using u:p<0∨1100<p)with h|h
  ·clear u
   go_enter Tryz.func50,Tryz.ntmps50
   go_upto_region 1 with fail;rw[←Y];clear Y
   go_wp2_with (first|(go_at_call 51;refine(k1 _).mono ?_;rintro e w' ⟨rfl,rfl⟩))
   refine kB8 (kM3 rfl _ _ _) rfl ?_;exact⟨rfl,J.out⟩
  ·have D:¬ p<0:=ω;clear u
   go_enter Tryz.func50,Tryz.ntmps50
   go_upto_region 1 with fail;rw[←Y];clear Y
   go_wp2_with (first|(go_at_call 51;refine(k1 _).mono ?_;rintro e w' ⟨rfl,rfl⟩))
   refine kB8 (kM3 rfl _ _ _) rfl ?_;exact⟨rfl,J.out⟩
theorem yC9 (f:Nat) (p m:Int) (t:List UInt8) (w:World) (h0:¬ p<0) (h1:¬ 1100<p)
  (k1:∀ W,Ca 51 #[iV m] W fun r w'=>r=.returned (.bool true)∧w'=W)
  (F:Hid (∀ W L T D,Bw w W→W.heap[L]?=some (.cells #[.float .f64 f] 22 (0,0))→W.heap[T]?=some (.cells #[iV p] 3 (0,0))→W.heap[D]?=some (.cells #[iV m] 3 (0,0)) →
   Ca 22 #[.float .f64 f,.func (.func 115) #[] #[.pointer (some ⟨L,0,none⟩),.pointer (some ⟨T,0,none⟩),.pointer (some ⟨D,0,none⟩)]] W (Rq W (.string ⟨t.toArray⟩)))) :
  Ca 50 #[.float .f64 f,iV p,iV m] w (Rq w (.tuple #[.string ⟨t.toArray⟩,iV 0])):=by
 obtain⟨W,H⟩:=eE (((w.alloc (.cells #[.float .f64 f] 22)).alloc (.cells #[iV p] 3)).alloc (.cells #[iV m] 3));obtain⟨J,m2,Y,u⟩:=qF4 _ _ _ H;have c1:=qK1 J bR;have c2:=qK1 m2 bR;have c3:=qK1 Y bR;have C:Hid _:=u;have I:=F.out W _ _ _ u J m2 Y;clear J m2 Y u F
 go_enter Tryz.func50,Tryz.ntmps50
 go_upto_region 1 with fail;rw[←H];clear H
 go_wp2_with (first|(go_at_call 51;refine(k1 _).mono ?_;rintro e w' ⟨rfl,rfl⟩)|(go_at_call 22;refine I.mono ?_;rintro r w1 ⟨rfl,V⟩))
 refine kB8 (kM3 rfl _ _ _) rfl ?_;exact⟨rfl,C.out.trans (V.mono C.out.size)⟩
theorem zW3 (s:Bool) (ao:Option Addr) (n u:Nat) (e:Int) (w:World):(Instr.field 50 (.agg (Nu s ao n u e)) 2).run Tryz.prog w=.ok (iV e) w:=by kernel_rfl
attribute [local go_sem] zW3
theorem zK7 (f:Nat) (t:List UInt8) (w:World)
  (H:Hid (∀ W F,Bw w W→W.heap[F]?=some (.cells #[.float .f64 f] 22 (0,0)) →
   Ca 22 #[.float .f64 f,.func (.func 31) #[] #[.pointer (some ⟨F,0,none⟩)]] W (Rq W (.string ⟨t.toArray⟩)))) :
  Ca 9 #[.float .f64 f] w (Rq w (.string ⟨t.toArray⟩)):=by
 obtain⟨W,u⟩:=eE (w.alloc (.cells #[.float .f64 f] 22));have J:Hx W w.heap.size #[.float .f64 f] 22:=by rw[u];exact kB7 _ _
 have Y:Bw w W:=by rw[u];exact bR.alloc lR _
 have C:=qK1 J bR;have D:Hid _:=Y;have T:=H.out W _ Y J;clear J Y H
 go_enter Tryz.func9,Tryz.ntmps9
 go_upto_region 1 with fail;rw[←u];clear u
 go_wp2_with (first|(go_at_call 22;refine T.mono ?_;rintro r L ⟨rfl,V⟩))
 go_ret;exact⟨rfl,D.out.trans (V.mono D.out.size)⟩
theorem yB6 (f:Nat) (t:List UInt8) (w:World)
  (H:Hid (∀ W F,Bw w W→W.heap[F]?=some (.cells #[.float .f64 f] 22 (0,0)) →
   Ca 22 #[.float .f64 f,.func (.func 41) #[] #[.pointer (some ⟨F,0,none⟩)]] W (Rq W (.string ⟨t.toArray⟩)))) :
  Ca 11 #[.float .f64 f] w (Rq w (.string ⟨t.toArray⟩)):=by
 obtain⟨W,u⟩:=eE (w.alloc (.cells #[.float .f64 f] 22));have J:Hx W w.heap.size #[.float .f64 f] 22:=by rw[u];exact kB7 _ _
 have Y:Bw w W:=by rw[u];exact bR.alloc lR _
 have C:=qK1 J bR;have D:Hid _:=Y;have T:=H.out W _ Y J;clear J Y H
 go_enter Tryz.func11,Tryz.ntmps11
 go_upto_region 1 with fail;rw[←u];clear u
 go_wp2_with (first|(go_at_call 22;refine T.mono ?_;rintro r L ⟨rfl,V⟩))
 go_ret;exact⟨rfl,D.out.trans (V.mono D.out.size)⟩
theorem qH5 (f:Nat) (t:List UInt8) (w:World)
  (H:Hid (∀ W F,Bw w W→W.heap[F]?=some (.cells #[.float .f64 f] 22 (0,0)) →
   Ca 22 #[.float .f64 f,.func (.func 23) #[] #[.pointer (some ⟨F,0,none⟩)]] W (Rq W (.string ⟨t.toArray⟩)))) :
  Ca 7 #[.float .f64 f] w (Rq w (.string ⟨t.toArray⟩)):=by
 obtain⟨W,u⟩:=eE (w.alloc (.cells #[.float .f64 f] 22));have J:Hx W w.heap.size #[.float .f64 f] 22:=by rw[u];exact kB7 _ _
 have Y:Bw w W:=by rw[u];exact bR.alloc lR _
 have C:=qK1 J bR;have D:Hid _:=Y;have T:=H.out W _ Y J;clear J Y H
 go_enter Tryz.func7,Tryz.ntmps7
 go_upto_region 1 with fail;rw[←u];clear u
 go_wp2_with (first|(go_at_call 22;refine T.mono ?_;rintro r L ⟨rfl,V⟩))
 go_ret;exact⟨rfl,D.out.trans (V.mono D.out.size)⟩
theorem yB8 (f:Nat) (H tr:Bool×Nat×Int) (p:Int) (d t:List UInt8) (g1:Nat) (w:World)
  (h1:w.heap[g1]?=some (.cells #[.float .f64 f] 22 (0,0))) (hp:Hid (max 0 (-H.2.2)=p)) (F:Hid (-100000≤H.2.2∧H.2.2≤100000))
  (k0:Hid (∀ W,Bw w W→Ca 32 #[.float .f64 f] W fun r w'=>OutA W H r w'))
  (k1:Hid (∀ W,Bw w W→Ca 34 #[.float .f64 f,iV p,iV 2] W fun r w'=>OutA W tr r w'))
  (k2:Hid (∀ W X,Bw w W→PN W X tr→Ca 33 #[X] W (Rq W (.string ⟨d.toArray⟩))))
  (k3:Hid (∀ W,Bw w W→Ca 26 #[.string ⟨d.toArray⟩,iV p] W (Rq W (.string ⟨t.toArray⟩)))) :
  Ca 31 #[.pointer (some ⟨g1,0,none⟩)] w (Rq w (.string ⟨t.toArray⟩)):=by
 have c1:=qK1 h1 bR;have u:=k0.out w bR;have H1:Hid _:=h1;clear k0 h1
 go_enter Tryz.func31,Tryz.ntmps31
 go_wp2_with fail;refine u.mono ?_;rintro r w1 ⟨s1,qJ,n1,qX,I,rfl,C,Y⟩;have he:I=H.2.2:=by
  obtain⟨_,_,h,-⟩:=C;simp at h
  exact h.2.2
 clear u c1;have HB:Hid _:=Y;have c2:=qK1 H1.out Y;have u:=k1.out w1 Y;clear k1 C Y;have hw:IntKind.i64.wrap (-I) = -I:=by rw[he,kB5];have:=F.out;omega
 have qZ:max 0 (-I)=p:=by rw[he];exact hp.out
 clear hp F he
 go_wp2_with fail;refine u.mono ?_;rintro r w2 ⟨s2,qK,n2,qY,e2,rfl,C,L⟩;clear u c2;have V:Hid _:=HB.out.trans (L.mono HB.out.size);have u:=k2.out w2 _ V.out C;clear k2 C L HB
 go_wp2_with fail;refine u.mono ?_;rintro r w3 ⟨rfl,T⟩;clear u;have J:Hid _:=V.out.trans (T.mono V.out.size);have u:=k3.out w3 J.out;clear k3 T V
 go_wp2_with fail;refine u.mono ?_;rintro r w4 ⟨rfl,D⟩;clear u;have qQ:Hid _:=J.out.trans (D.mono J.out.size);clear D J
 go_wp2
 go_ret;exact⟨rfl,qQ.out⟩
theorem xP0 (f:Nat) (m:Nat) (e:Int) (a3 a4:Value) (t:List UInt8) (g1:Nat) (w:World)
  (I:w.heap[g1]?=some (.cells #[.float .f64 f] 22 (0,0)))
  (k0:Hid (Ca 42 #[.float .f64 f] w (Rq w (.tuple #[.int .u64 m,iV e,a3,a4]))))
  (k1:Hid (m≠0→∀ W,Bw w W→Ca 43 #[.int .u64 m,iV e] W (Rq W (.string ⟨t.toArray⟩))))
  (F:Hid (m=0→t = [48,120,48,112,48])) :
  Ca 41 #[.pointer (some ⟨g1,0,none⟩)] w (Rq w (.string ⟨t.toArray⟩)):=by
 have c1:=qK1 I bR;have V:=k0.out;clear k0 I;by_cases H:m=0
 ·obtain rfl:=F.out H;subst H;clear F k1
  go_enter Tryz.func41,Tryz.ntmps41
  go_wp2_with fail;refine V.mono ?_;rintro r T ⟨rfl,u⟩;have D:Hid _:=u;clear V u
  go_wp2
  go_ret;exact⟨rfl,D.out⟩
 ·have C:=k1.out H;have qQ:¬ (m:Int)=0:=ω;clear F k1
  go_enter Tryz.func41,Tryz.ntmps41
  go_wp2_with fail;refine V.mono ?_;rintro r T ⟨rfl,u⟩;have Y:Hid _:=u;have L:=C T u;clear V u C
  go_wp2_with fail;refine L.mono ?_;rintro r w2 ⟨rfl,J⟩;have D:Hid _:=Y.out.trans (J.mono Y.out.size);clear L J Y
  go_wp2
  go_ret;exact⟨rfl,D.out⟩
def hxL (L:Nat) (c t:List UInt8):List UInt8 := [48,120,49]++(if 1<L then 46 :: c else [])++112 :: t
theorem zA3 (m L:Nat) (e:Int) (b c t:List UInt8) (w:World) (hL:L≤64) (he : -100000≤e∧e≤100000) (hb:Hid (b.length≤16)) (hc:Hid (c.length≤16)) (ht:Hid (t.length≤100))
  (k1:∀ W,Ca 108 #[.int .u64 m] W fun r w'=>r=.returned (iV L)∧w'=W)
  (k2:Hid (1<L→Ca 109 #[.int .u64 (IntKind.u64.wrap ((m:Int)*2^(65 - L))),iV 16] w (Rq w (.string ⟨b.toArray⟩))))
  (k3:Hid (KNz w))
  (k4:Hid (∀ W,Ca 78 #[.string ⟨(nzL (16 - b.length)++b).toArray⟩,.string ⟨#[48]⟩] W (Rq W (.string ⟨c.toArray⟩))))
  (k5:Hid (∀ W,Bw w W→Ca 79 #[iV (e+L - 1)] W (Rq W (.string ⟨t.toArray⟩)))) :
  Ca 43 #[.int .u64 m,iV e] w (Rq w (.string ⟨(hxL L c t).toArray⟩)):=by
 have qU:IntKind.i64.wrap (e+L)=e+L:=by rw[kB5];omega
 have qV:IntKind.i64.wrap (e+L - 1)=e+L - 1:=by rw[kB5];omega
 have qJ:IntKind.i64.wrap (65 - (L:Int))=65 - (L:Int):=by rw[kB5];omega
 by_cases D:1<L
 ·have qZ:(1:Int)<(L:Int):=ω;have qF:¬ (65 - (L:Int))<0:=ω;have qH:(65 - (L:Int))<64:=ω;have qG:(⟨b.toArray⟩:ByteArray).size=b.length:=rfl;have qK:IntKind.i64.wrap (16 - (b.length:Int))=16 - (b.length:Int):=by rw[kB5];have:=hb.out;omega
  have qQ:(nzL (16 - (b.length:Int))).length≤16:=by rw[qD0];omega
  have s1:(⟨(nzL (16 - (b.length:Int))).toArray⟩:ByteArray).size+(⟨b.toArray⟩:ByteArray).size≤9223372036854775807:=by
   rw[bsz,bsz];have:=hb.out;omega
  have e1:(⟨(nzL (16 - (b.length:Int))).toArray⟩:ByteArray)++⟨b.toArray⟩=⟨(nzL (16 - b.length)++b).toArray⟩:=qZ0 _ _;have s2:(⟨#[46]⟩:ByteArray).size+(⟨c.toArray⟩:ByteArray).size≤9223372036854775807:=by
   rw[show(⟨#[46]⟩:ByteArray).size=1 from rfl,bsz];have:=hc.out;omega
  have e2:=qZ0 [46] c;obtain⟨A,hA⟩:∃ A:List UInt8,A=48 :: 120 :: 49 :: 46 :: c:=⟨_,rfl⟩;have s3:(⟨#[48,120,49]⟩:ByteArray).size+(⟨(46 :: c).toArray⟩:ByteArray).size≤9223372036854775807:=by
   rw[show(⟨#[48,120,49]⟩:ByteArray).size=3 from rfl,bsz,kG2];have:=hc.out;omega
  have e3:(⟨#[48,120,49]⟩:ByteArray)++⟨(46 :: c).toArray⟩=⟨A.toArray⟩:=by rw[hA];exact qZ0 [48,120,49] (46 :: c)
  have qY:A.length≤20:=by rw[hA];simp only[kG2];have:=hc.out;omega
  have s4:(⟨A.toArray⟩:ByteArray).size+(⟨#[112]⟩:ByteArray).size≤9223372036854775807:=by
   rw[show(⟨#[112]⟩:ByteArray).size=1 from rfl,bsz];omega
  have e4:=qZ0 A [112];have s5:(⟨(A ++ [112]).toArray⟩:ByteArray).size+(⟨t.toArray⟩:ByteArray).size≤9223372036854775807:=by
   rw[bsz,bsz,kM0];have:=ht.out;simp;omega
  have fin:(⟨(A ++ [112]).toArray⟩:ByteArray)++⟨t.toArray⟩=⟨(hxL L c t).toArray⟩:=by
   rw[qZ0,hA];unfold hxL;rw[kU6 D];simp
  have F:=k2.out D;clear hA qY qQ k2 D
  go_enter Tryz.func43,Tryz.ntmps43
  go_wp2_with (first|(go_at_call 108;refine(k1 _).mono ?_;rintro r w' ⟨rfl,rfl⟩)|(go_at_call 109;refine F.mono ?_;rintro r w1 ⟨rfl,u⟩))
  have kk:=k3.out (16 - (b.length:Int)) w1 (by have:=hb.out;omega) u
  have HB:Hid _:=u;clear k3 u F
  go_wp2_with fail;refine kk.mono ?_;rintro r w2 ⟨rfl,I⟩;have J:Hid _:=HB.out.trans (I.mono HB.out.size);have H:=k4.out w2;clear kk I HB k4
  go_wp2_with fail;refine H.mono ?_;rintro r w3 ⟨rfl,C⟩;have Y:Hid _:=J.out.trans (C.mono J.out.size);have V:=k5.out w3 Y.out;clear H C J k5
  go_wp2_with fail;refine V.mono ?_;rintro r w4 ⟨rfl,T⟩;have qX:Hid _:=Y.out.trans (T.mono Y.out.size);clear V T Y
  go_wp2
  go_ret;exact⟨rfl,qX.out⟩
 ·have qZ:¬ (1:Int)<(L:Int):=ω;have e1:=qZ0 [48,120,49] [112];have s1:(⟨#[48,120,49]⟩:ByteArray).size+(⟨#[112]⟩:ByteArray).size≤9223372036854775807:=by decide
  have s2:(⟨#[48,120,49,112]⟩:ByteArray).size+(⟨t.toArray⟩:ByteArray).size≤9223372036854775807:=by
   rw[show(⟨#[48,120,49,112]⟩:ByteArray).size=4 from rfl,bsz];have:=ht.out;omega
  have fin:(⟨#[48,120,49,112]⟩:ByteArray)++⟨t.toArray⟩=⟨(hxL L c t).toArray⟩:=by
   rw[show(⟨#[48,120,49,112]⟩:ByteArray)=⟨[48,120,49,112].toArray⟩from rfl,qZ0];unfold hxL;rw[kU5 D];rfl
  have kk:=k5.out w bR;clear k2 k3 k4 k5 D
  go_enter Tryz.func43,Tryz.ntmps43
  go_wp2_with (first|(go_at_call 108;refine(k1 _).mono ?_;rintro r w' ⟨rfl,rfl⟩)|(go_at_call 79;refine kk.mono ?_;rintro r w1 ⟨rfl,u⟩))
  go_ret;exact⟨rfl,u⟩
theorem yB3 (f:Nat) (Y:Nat) (w:World)
  (u:w.heap[Y]?=some (.cells #[.float .f64 f] 22 (0,0))) (J:(FloatKind.f64.format.order f 0==some Ordering.eq)=true) :
  Ca 23 #[.pointer (some ⟨Y,0,none⟩)] w fun r w'=>r=.returned (.string ⟨#[48]⟩)∧w'=w:=by
 have V:=qK1 u bR;clear u
 go_enter Tryz.func23,Tryz.ntmps23
 go_wp2
 go_ret;exact⟨rfl,rfl⟩
theorem zH4 (f fa:Nat) (x:Int) (d t:List UInt8) (g1:Nat) (w:World)
  (h1:w.heap[g1]?=some (.cells #[.float .f64 f] 22 (0,0))) (hf:(FloatKind.f64.format.order f 0==some Ordering.eq)=false) (hx : -10000≤x∧x≤10000) (hd:d.length≤20000)
  (k1:∀ W,Ca 17 #[.float .f64 f] W fun r w'=>r=.returned (.float .f64 fa)∧w'=W)
  (k2:Hid (Ca 24 #[.float .f64 fa] w (Rq w (.tuple #[.string ⟨d.toArray⟩,iV x]))))
  (I:Hid ((x < -5∨20<x)→∀ W,Bw w W→Ca 25 #[.string ⟨d.toArray⟩,iV x] W (Rq W (.string ⟨t.toArray⟩))))
  (C:Hid (¬ (x < -5∨20<x)→∀ W,Bw w W→Ca 26 #[.string ⟨d.toArray⟩,iV (d.length - 1 - x)] W (Rq W (.string ⟨t.toArray⟩)))) :
  Ca 23 #[.pointer (some ⟨g1,0,none⟩)] w (Rq w (.string ⟨t.toArray⟩)):=by
 have c1:=qK1 h1 bR;have qY:(⟨d.toArray⟩:ByteArray).size=d.length:=rfl;have qZ:IntKind.i64.wrap ((d.length:Int) - 1)=d.length - 1:=by rw[kB5];omega
 have qQ:IntKind.i64.wrap ((d.length:Int) - 1 - x)=d.length - 1 - x:=by rw[kB5];omega
 have D:=k2.out;clear h1 k2;by_cases T:x < -5∨20<x
 ·have F:=I.out T;clear I C;rcases T with h|h
  ·clear hx
   go_enter Tryz.func23,Tryz.ntmps23
   go_wp2_with (first|(go_at_call 17;refine(k1 _).mono ?_;rintro r w' ⟨rfl,rfl⟩))
   refine D.mono ?_;rintro r L ⟨rfl,u⟩;have V:Hid _:=u;have H:=F L u;clear D u c1 F
   go_wp2_with fail;refine H.mono ?_;rintro r w2 ⟨rfl,Y⟩;have J:Hid _:=V.out.trans (Y.mono V.out.size);clear H Y V
   go_wp2
   go_ret;exact⟨rfl,J.out⟩
  ·have h0:¬ x < -5:=ω
   go_enter Tryz.func23,Tryz.ntmps23
   go_wp2_with (first|(go_at_call 17;refine(k1 _).mono ?_;rintro r w' ⟨rfl,rfl⟩))
   refine D.mono ?_;rintro r L ⟨rfl,u⟩;have V:Hid _:=u;have H:=F L u;clear D u c1 F
   go_wp2_with fail;refine H.mono ?_;rintro r w2 ⟨rfl,Y⟩;have J:Hid _:=V.out.trans (Y.mono V.out.size);clear H Y V
   go_wp2
   go_ret;exact⟨rfl,J.out⟩
 ·have F:=C.out T;have h0:¬ x < -5:=fun h=>T (.inl h);have h1:¬ 20<x:=fun h=>T (.inr h);clear I C T
  go_enter Tryz.func23,Tryz.ntmps23
  go_wp2_with (first|(go_at_call 17;refine(k1 _).mono ?_;rintro r w' ⟨rfl,rfl⟩))
  refine D.mono ?_;rintro r L ⟨rfl,u⟩;have V:Hid _:=u;have H:=F L u;clear D u c1 F
  go_wp2_with fail;refine H.mono ?_;rintro r w2 ⟨rfl,Y⟩;have J:Hid _:=V.out.trans (Y.mono V.out.size);clear H Y V
  go_wp2
  go_ret;exact⟨rfl,J.out⟩
theorem zP5 (J:Bool) (Y:Option Addr) (V u:Nat) (H:Int) (L:Bool×Nat×Int) (f g:Nat) (b:Bool) (er:Int) (w:World) (h1:PN w (.agg (Nu J Y V u H)) L)
  (k1:Hid (∀ W,Bw w W→PN W (.agg (Nu J Y V u H)) L→Ca 249 #[.agg (Nu J Y V u H),iV 2] W (Rq W (.tuple #[.float .f64 g,iV er]))))
  (C:(FloatKind.f64.format.order g f==some Ordering.eq)=b) :
  Ca 203 #[.agg (Nu J Y V u H),.float .f64 f] w (Rq w (.bool b)):=by
 obtain⟨W,T⟩:=eE (w.alloc (.cells (Nu J Y V u H) 50));have F:Hid (PBx W w.heap.size J Y V u H L∧Bw w W):=(by
  have C:Bw w W:=by rw[T];exact bR.alloc lR _
  exact⟨⟨by rw[T];exact kB7 _ _,h1.later C⟩,C⟩:_∧_)
 obtain⟨⟨c0,c1,c2⟩,-⟩:=qQ3 F.out.1.1;have I:=k1.out W F.out.2 F.out.1.2;clear k1 h1
 go_enter Tryz.func203,Tryz.ntmps203
 go_upto_region 1 with fail;rw[←T];clear T
 go_wp2_with fail;refine I.mono ?_;rintro r w1 ⟨rfl,D⟩;have HB:Hid _:=F.out.2.trans (D.mono F.out.2.size);clear I D F c0 c1 c2
 go_wp2
 go_ret;exact⟨rfl,HB.out⟩
theorem zP3 (f:Nat) (x:Int) (N:Nat) (ta t1 t2 tn:Bool×Nat×Int) (d c:List UInt8) (w:World) (hx : -10000≤x∧x≤10000) (hd:d.length≤20000)
  (k1:Hid (∀ W,Bw w W→Ca 32 #[.float .f64 f] W fun r w'=>OutA W ta r w'))
  (k2:Hid (∀ W X,Bw w W→PN W X ta→Ca 60 #[X] W (Rq W (iV x))))
  (k3:Hid (∀ W,Bw w W→Ca 77 #[iV (16 - x)] W fun r w'=>qT3 W t1 t2 r w'))
  (k4:Hid (∀ W X S,Bw w W→PN W X ta→Fv W S t1 t2→Ca 76 #[.float .f64 f,X,S] W (Rq W (.int .u64 N))))
  (k5:Hid (∀ W,Bw w W→Ca 75 #[.int .u64 N] W fun r w'=>OutA W tn r w'))
  (k6:Hid (∀ W X,Bw w W→PN W X tn→Ca 33 #[X] W (Rq W (.string ⟨d.toArray⟩))))
  (k7:Hid (∀ W,Bw w W→Ca 78 #[.string ⟨d.toArray⟩,.string ⟨#[48]⟩] W (Rq W (.string ⟨c.toArray⟩)))) :
  Ca 24 #[.float .f64 f] w (Rq w (.tuple #[.string ⟨c.toArray⟩,iV (d.length - 1 - (16 - x))])):=by
 have qM:IntKind.i64.wrap (16 - x)=16 - x:=by rw[kB5];omega
 have qS:IntKind.i64.wrap ((d.length:Int) - 1)=d.length - 1:=by rw[kB5];omega
 have qD:IntKind.i64.wrap ((d.length:Int) - 1 - (16 - x))=d.length - 1 - (16 - x):=by rw[kB5];omega
 have qR:(⟨d.toArray⟩:ByteArray).size=d.length:=rfl;have C:=k1.out w bR;clear k1
 go_enter Tryz.func24,Tryz.ntmps24
 go_wp2_with fail;refine C.mono ?_;rintro r w1 ⟨s1,L,n1,T,e1,rfl,hA,qY⟩;clear C;obtain⟨W1,D⟩:=eE (w1.alloc (.cells (Nu s1 L n1 T e1) 50));have qQ:Bw w1 W1:=by rw[D];exact bR.alloc lR _
 have n6:Hn W1 w1.heap.size s1 L n1 T e1 50:=by rw[D];exact kB7 _ _
 go_upto_region 2 with fail;rw[←D];clear D;have qK:=hA.later qQ;have qX:Bw w W1:=qY.trans (qQ.mono qY.size);clear qQ hA qY;generalize w1.heap.size=qU at *;have H1:Hid (PBx W1 qU s1 L n1 T e1 ta∧Bw w W1):=⟨⟨n6,qK⟩,qX⟩;obtain⟨⟨c0,c1,c2⟩,-⟩:=qQ3 H1.out.1.1;have C:=k2.out W1 _ qX qK;clear k2 n6 qK qX
 go_wp2_with fail;refine C.mono ?_;rintro r w2 ⟨rfl,qZ⟩;have H2:Hid _:=And.intro (H1.out.1.later qZ) (H1.out.2.trans (qZ.mono H1.out.2.size));clear C qZ H1 c0 c1 c2
 go_upto_region 4 with fail;obtain⟨m1,H⟩:=H2.out;refine qJ2 [0,1,2,3,4,5,6,7] [14,15,16,17,18,19,20,7] [[],[],[],[2],[0,1,3],[4],[5],[6]] w2 _ [isV (.float .f64 f),isV (.agg (Nu s1 L n1 T e1)),isV (iV (16 - x)),isF t1 t2,isV (.int .u64 N),isP tn,isV (.string ⟨d.toArray⟩),isV (.string ⟨d.toArray⟩)] (by kernel_rfl) ⟨qQ2 _,qQ2 _,qQ2 _,zV7 _ _,qQ2 _,qX4 _,qQ2 _,qQ2 _,trivial⟩ (by show ∀ s ∈ [14,15,16,17,18,19,20,7],s<28;decide) ?_ ?_
 ·intro j hj o I act U hb V Y;have qT:j<8:=hj;have F:Bw w U:=H.trans (hb.mono H.size);have qN:act.tmps[(0:Nat)]?=some (Value.float .f64 f):=(V 0 δ).trans rfl;have qB:act.tmps[(4:Nat)]?=some (Value.pointer (some ⟨qU,0,none⟩)):=(V 4 δ).trans rfl;have qF:act.tmps[(6:Nat)]?=some (iV (16 - x)):=(V 6 δ).trans rfl;have d4:=(qK8 (qQ0 m1.1 hb (qQ7 m1.1))).1;rcases(by omega:j=0∨j=1∨j=2∨j=3∨j=4∨j=5∨j=6∨j=7)with rfl|rfl|rfl|rfl|rfl|rfl|rfl|rfl
  ·obtain rfl:=kF0 I;exact .inl ⟨rfl,qZ7 rfl qN ⟨_,rfl,rfl,kH9 _ _⟩⟩
  ·obtain rfl:=kF0 I;exact .inl ⟨rfl,qK6 (f:=0) rfl qB d4.1 d4.2.1 d4.2.2 ⟨_,rfl,rfl,kH9 _ _⟩⟩
  ·obtain rfl:=kF0 I;exact .inl ⟨rfl,qZ7 rfl qF ⟨_,rfl,rfl,kH9 _ _⟩⟩
  ·obtain rfl:=kF0 I;have y2:act.tmps[(16:Nat)]?=_:=dV (Y 2 (by simp[dL])) rfl
   refine .inl ⟨rfl,qQ9 rfl (qZ4 Tryz.func77 (by kernel_rfl) (by kernel_rfl)) (qN4 y2) ?_⟩
   refine(k3.out U F).mono ?_
   rintro r w' ⟨A,rfl,hA,J⟩;exact⟨_,rfl,_,rfl,hA,J⟩
  ·obtain rfl:=kF0 I;have y0:act.tmps[(14:Nat)]?=_:=dV (Y 0 (by simp[dL])) rfl
   have y1:act.tmps[(15:Nat)]?=_:=dV (Y 1 (by simp[dL])) rfl
   obtain⟨u3,y3,v3⟩:=Y 3 (by simp[dL])
   have qH:act.tmps[(17:Nat)]?=_:=y3;refine .inl ⟨rfl,qQ9 rfl (qZ4 Tryz.func76 (by kernel_rfl) (by kernel_rfl)) (xG0 y0 y1 qH) ?_⟩
   refine(k4.out U _ _ F (m1.2.later hb) v3).mono ?_
   rintro r w' ⟨rfl,J⟩;exact⟨_,rfl,_,rfl,rfl,J⟩
  ·obtain rfl:=kF0 I;have y4:act.tmps[(18:Nat)]?=_:=dV (Y 4 (by simp[dL])) rfl
   refine .inl ⟨rfl,qQ9 rfl (qZ4 Tryz.func75 (by kernel_rfl) (by kernel_rfl)) (qN4 y4) ?_⟩
   refine(k5.out U F).mono ?_
   rintro r w' ⟨_,_,_,_,_,rfl,hA,J⟩;exact⟨_,rfl,_,rfl,hA,J⟩
  ·obtain rfl:=kF0 I;obtain⟨u5,y5,v5⟩:=Y 5 (by simp[dL])
   have qG:act.tmps[(19:Nat)]?=_:=y5;refine .inl ⟨rfl,qQ9 rfl (qZ4 Tryz.func33 (by kernel_rfl) (by kernel_rfl)) (qN4 qG) ?_⟩
   refine(k6.out U _ F v5).mono ?_
   rintro r w' ⟨rfl,J⟩;exact⟨_,rfl,_,rfl,rfl,J⟩
  ·obtain rfl:=kF0 I;have y6:act.tmps[(20:Nat)]?=_:=dV (Y 6 (by simp[dL])) rfl
   exact .inl ⟨rfl,qX5 rfl y6 ⟨_,rfl,rfl,kH9 _ _⟩⟩
 ·intro u W5 qV hu;have u7:u 7=.string ⟨d.toArray⟩:=hu 7 (by show 7<8;decide)
  have HB:Hid _:=H.trans (qV.mono H.size);have C:=k7.out W5 HB.out;clear hu qV k3 k4 k5 k6 k7 H2 m1 H qM;simp only[putL,show List.range 8 = [0,1,2,3,4,5,6,7] from rfl,show List.range 8 = [0,1,2,3,4,5,6,7] from rfl,kG2,kG3,kG4,kG5,kH2,kH3,kH0,kG9,List.foldl_cons,List.foldl_nil,Nat.reduceLT,Nat.reduceMod,Nat.reduceDiv,Nat.reduceMul,Nat.reduceAdd,Nat.reduceEqDiff,reduceIte,kG8,Act.put,kU9,kG0,kG1];rw[u7];clear u7
  go_wp2_with fail;refine C.mono ?_;rintro r w6 ⟨rfl,qJ⟩;have qP:Hid _:=HB.out.trans (qJ.mono HB.out.size);clear C qJ HB
  go_wp2;refine kB8 (kM3 rfl _ _ _) rfl ?_;exact⟨rfl,qP.out⟩
def isDg (c:Nat) (b:Int):Bool:=(decide (48≤c)&&decide (c≤57))||(((decide (97≤c)&&decide (c≤102))||(decide (65≤c)&&decide (c≤70)))&&(b==16))
theorem yC2 (c:Nat) (b:Int) (w:World) (D:c<256) :
  Ca 175 #[.int .u8 c,iV b] w fun r w'=>r=.returned (.bool (isDg c b))∧w'=w:=by
 rcases(by omega:c≤47∨(48≤c∧c≤57)∨(58≤c∧c≤64)∨(65≤c∧c≤70)∨(71≤c∧c≤96)∨(97≤c∧c≤102)∨103≤c)with h|h|h|h|h|h|h
 ·have Y:isDg c b=false:=by
   unfold isDg;rw[show(decide (48≤c)&&decide (c≤57))=false by simp;omega,show((decide (97≤c)&&decide (c≤102))||(decide (65≤c)&&decide (c≤70)))=false by simp;omega];simp
  have F:¬ (48:Int)≤(c:Int):=ω;have H:(c:Int)≤57:=ω;have J:¬ (97:Int)≤(c:Int):=ω;have u:(c:Int)≤102:=ω;have V:¬ (65:Int)≤(c:Int):=ω;have z70:(c:Int)≤70:=ω;rw[Y];clear Y h D
  go_enter Tryz.func175,Tryz.ntmps175
  go_wp2
  go_ret;exact⟨rfl,rfl⟩
 ·have Y:isDg c b=true:=by
   unfold isDg;simp;omega
  have F:(48:Int)≤(c:Int):=ω;have H:(c:Int)≤57:=ω;have J:¬ (97:Int)≤(c:Int):=ω;have u:(c:Int)≤102:=ω;have V:¬ (65:Int)≤(c:Int):=ω;have z70:(c:Int)≤70:=ω;rw[Y];clear Y h D
  go_enter Tryz.func175,Tryz.ntmps175
  go_wp2
  go_ret;exact⟨rfl,rfl⟩
 ·have Y:isDg c b=false:=by
   unfold isDg;rw[show(decide (48≤c)&&decide (c≤57))=false by simp;omega,show((decide (97≤c)&&decide (c≤102))||(decide (65≤c)&&decide (c≤70)))=false by simp;omega];simp
  have F:(48:Int)≤(c:Int):=ω;have H:¬ (c:Int)≤57:=ω;have J:¬ (97:Int)≤(c:Int):=ω;have u:(c:Int)≤102:=ω;have V:¬ (65:Int)≤(c:Int):=ω;have z70:(c:Int)≤70:=ω;rw[Y];clear Y h D
  go_enter Tryz.func175,Tryz.ntmps175
  go_wp2
  go_ret;exact⟨rfl,rfl⟩
 ·have Y:isDg c b=(b==16):=by
   unfold isDg;rw[show(decide (48≤c)&&decide (c≤57))=false by simp;omega,show((decide (97≤c)&&decide (c≤102))||(decide (65≤c)&&decide (c≤70)))=true by simp;omega];simp
  have F:(48:Int)≤(c:Int):=ω;have H:¬ (c:Int)≤57:=ω;have J:¬ (97:Int)≤(c:Int):=ω;have u:(c:Int)≤102:=ω;have V:(65:Int)≤(c:Int):=ω;have z70:(c:Int)≤70:=ω;rw[Y];clear Y h D
  go_enter Tryz.func175,Tryz.ntmps175
  go_wp2
  go_ret;exact⟨rfl,rfl⟩
 ·have Y:isDg c b=false:=by
   unfold isDg;rw[show(decide (48≤c)&&decide (c≤57))=false by simp;omega,show((decide (97≤c)&&decide (c≤102))||(decide (65≤c)&&decide (c≤70)))=false by simp;omega];simp
  have F:(48:Int)≤(c:Int):=ω;have H:¬ (c:Int)≤57:=ω;have J:¬ (97:Int)≤(c:Int):=ω;have u:(c:Int)≤102:=ω;have V:(65:Int)≤(c:Int):=ω;have z70:¬ (c:Int)≤70:=ω;rw[Y];clear Y h D
  go_enter Tryz.func175,Tryz.ntmps175
  go_wp2
  go_ret;exact⟨rfl,rfl⟩
 ·have Y:isDg c b=(b==16):=by
   unfold isDg;rw[show(decide (48≤c)&&decide (c≤57))=false by simp;omega,show((decide (97≤c)&&decide (c≤102))||(decide (65≤c)&&decide (c≤70)))=true by simp;omega];simp
  have F:(48:Int)≤(c:Int):=ω;have H:¬ (c:Int)≤57:=ω;have J:(97:Int)≤(c:Int):=ω;have u:(c:Int)≤102:=ω;have V:(65:Int)≤(c:Int):=ω;have z70:¬ (c:Int)≤70:=ω;rw[Y];clear Y h D
  go_enter Tryz.func175,Tryz.ntmps175
  go_wp2
  go_ret;exact⟨rfl,rfl⟩
 ·have Y:isDg c b=false:=by
   unfold isDg;rw[show(decide (48≤c)&&decide (c≤57))=false by simp;omega,show((decide (97≤c)&&decide (c≤102))||(decide (65≤c)&&decide (c≤70)))=false by simp;omega];simp
  have F:(48:Int)≤(c:Int):=ω;have H:¬ (c:Int)≤57:=ω;have J:(97:Int)≤(c:Int):=ω;have u:¬ (c:Int)≤102:=ω;have V:(65:Int)≤(c:Int):=ω;have z70:¬ (c:Int)≤70:=ω;rw[Y];clear Y h D
  go_enter Tryz.func175,Tryz.ntmps175
  go_wp2
  go_ret;exact⟨rfl,rfl⟩
def bL (L:List UInt8) (k:Nat):Nat:=((L[k]?).getD 0).toNat
theorem yL2 (L:List UInt8) (k:Nat):bL L k<256:=UInt8.toNat_lt _
theorem zQ9 (L:List UInt8) (k:Nat) (h:k<(⟨L.toArray⟩:ByteArray).size):((⟨L.toArray⟩:ByteArray)[k]'h).toNat=bL L k:=by
 unfold bL;have u:=h;rw[List.getElem?_eq_getElem u];rfl
def qD6 (L:List UInt8) (b:Int):Bool:=L.all (fun c=>isDg c.toNat b)
theorem qI5 (L:List UInt8) (b:Int):qD6 L b=true↔∀ k,k<L.length→isDg (bL L k) b=true:=by
 unfold qD6 bL;rw[List.all_eq_true];constructor
 ·intro h k u;rw[List.getElem?_eq_getElem u];exact h _ (List.getElem_mem u)
 ·intro h x hx;obtain⟨k,u,rfl⟩:=List.getElem_of_mem hx;have:=h k u
  rw[List.getElem?_eq_getElem u] at this;exact this
theorem zZ1 (L:List UInt8) (b:Int) (w:World) (hL:L.length≤2000000) :
  Calls Tryz.prog 120 #[.string ⟨L.toArray⟩,.int .i64 b] w fun r w'=>r=.returned (.bool (qD6 L b&&decide (L ≠ [])))∧w'=w:=by
 have H:(⟨L.toArray⟩:ByteArray).size=L.length:=rfl;have V:Hid (qD6 L b=true↔∀ k,k<L.length→isDg (bL L k) b=true):=qI5 L b;obtain⟨n,D⟩:=eE L.length;rw[←D] at H hL V;have hg:∀ k (h:k<(⟨L.toArray⟩:ByteArray).size),((⟨L.toArray⟩:ByteArray)[k]'h).toNat=bL L k:=zQ9 L;have Hn:Hid (n=L.length):=D;obtain⟨J,u⟩:=eE (qD6 L b);have qZ:Hid (J=qD6 L b):=u;rw[←u] at V ⊢;clear D u
 go_enter Tryz.func120,Tryz.ntmps120
 go_wp2
 go_loopw [8] (fun v wr=>∃ i:Nat,i≤n∧v=.int .i64 i∧wr=w∧Hid (∀ k,k<i→isDg (bL L k) b=true)) (fun v _=>n - (intOf v).toNat)
 case atStart=>exact⟨0,kB4 _,rfl,rfl,(fun k W=>absurd W (Nat.not_lt_zero _):∀ k,k<0→isDg (bL L k) b=true)⟩
 case round =>
  obtain⟨i,hi,rfl,rfl,hM⟩:=hrel;by_cases I:i<n
  ·have C:(i:Int)<(n:Int):=ω;have qQ:IntKind.i64.wrap ((i:Int)+1)=(i:Int)+1:=by rw[kB5];omega
   have kd:=yC2 (bL L i) b;have Y:=yL2 L i
   go_wp2_with fail;refine(kd _ Y).mono ?_
   rintro r w1 ⟨rfl,rfl⟩;clear kd Y;obtain⟨q,F⟩:=eE (isDg (bL L i) b);rw[←F];have Hq:Hid (q=isDg (bL L i) b):=F;clear F;cases q
   ·have ha:J=false:=by
     cases J
     ·rfl
     ·have h3:=V.out.1 rfl i I;rw[←Hq.out] at h3;cases h3
    subst ha;clear hg
    go_wp2
    go_ret;exact⟨rfl,rfl⟩
   ·clear hg
    go_wp2;refine⟨⟨i+1,ω,by push_cast;rfl,by first|rfl|trivial,(fun k W=>?_:∀ k,k<i+1→isDg (bL L k) b=true)⟩,by simp[intOf];omega⟩
    by_cases T:k<i
    ·exact hM.out k T
    ·obtain rfl:k=i:=ω;exact Hq.out.symm
  ·have C:¬ (i:Int)<(n:Int):=ω;have ha:J=true:=V.out.2 fun k W=>hM.out k ω;subst ha;clear hg hM
   go_wp2
   go_ret;have he:L.isEmpty=decide (L = []):=by cases L <;> simp
   refine⟨?_,rfl⟩
   show Ending.returned (Value.bool (!L.isEmpty))=_
   rw[he]
end Go.Proofs.YtfkaogdmlcdceaaGreatDoor
namespace Go.Proofs.YtfkaogdmlcdceaaGreatDoor
open Go Go.RowKit Go.Fl64
attribute [local go_sem] iV Nu
theorem qW0 (w:World) (s:ByteArray) (p:Nat):Below w.heap.size w (w.iter s p):=bR.alloc lR _
theorem xM6 (L J:UInt8) (h0:L.toNat<128) (h1:J.toNat<128) (r:Int) (hr:128≤r) (qZ:r≤2147483647) (w:World) :
  Ca 171 #[.string ⟨#[L,J]⟩,.int .i32 r] w fun e w'=>e=.returned (iV (-1))∧Bw w w':=by
 have qQ:(⟨#[L,J]⟩:ByteArray).size=2:=rfl;obtain⟨s,H⟩:∃ s:ByteArray,s=⟨#[L,J]⟩:=⟨_,rfl⟩;rw[←H] at qQ ⊢;have q1:(0:Int)≤r:=ω;have q2:¬ (r<128):=ω;have g0:s[0]' ω=L:=by subst H;rfl
 have D:s[1]' ω=J:=by subst H;rfl
 by_cases h3:r=65533
 ·subst h3;have n0:=fun C=>run_next_ascii (P:=Tryz.prog) w s 0 C ω (by rw[g0];exact h0)
  have n1:=fun C=>run_next_ascii (P:=Tryz.prog) w s 1 C ω (by rw[D];exact h1)
  have n2:=fun C=>run_next_end (P:=Tryz.prog) w s 2 C ω;rw[g0] at n0;rw[D] at n1;have e0:((L.toNat:Int)==65533)=false:=by rw[kN2];omega
  have e1:((J.toNat:Int)==65533)=false:=by rw[kN2];omega
  have HB:Hid (Below w.heap.size w (w.iter s 2)):=qW0 _ _ _;clear H g0 D hr qZ q1 q2 h0 h1
  go_enter Tryz.func171,Tryz.ntmps171
  go_wp2_with fail
  go_loopg [5,6] 2 (fun g _ _ W=>∃ i:Nat,i+g=2∧W=w.iter s i)
  case atStart=>exact⟨0,rfl,rfl⟩
  case round =>
   obtain⟨i,qK,rfl⟩:=hrel;rcases(by omega:i=0∨i=1∨i=2)with rfl|rfl|rfl
   ·go_wp2
    go_roundg 1
    case measure=>omega
    case rel=>exact⟨1,rfl,rfl⟩
   ·go_wp2
    go_roundg 0
    case measure=>omega
    case rel=>exact⟨2,rfl,rfl⟩
   ·go_wp2
    go_ret;exact⟨rfl,HB.out⟩
 ·have qV:(r==65533)=false:=by rw[kN2];exact h3
  have I:=Tryz.utf8_ValidRune r;cases hv:Lib.validRune r
  ·rw[hv] at I;clear H g0 D qQ h3 hv
   go_enter Tryz.func171,Tryz.ntmps171
   go_wp2_with (first|(go_at_call 229;refine(I _).mono ?_;rintro e w' ⟨rfl,u⟩;replace u:=u.symm;subst u))
   go_ret;exact⟨rfl,kH9 _ _⟩
  ·rw[hv] at I;have Y:Utf8.valid r=true:=by
    rw[validRune_eq];unfold Lib.validRune at hv;simpa [validRune] using hv
   obtain⟨f1,f2,f3⟩:=encode_facts r Y hr;have qJ:∀ w,(convert 21 9 (.int .i32 r)).run Tryz.prog w=.ok (.string (Utf8.encode r)) w:=fun w=>run_convert_int_string w _ _ _ _ (by rw[Tryz.underlying21];rfl) Tryz.underlying9
   generalize hE:Utf8.encode r=E at *;obtain⟨V,qY⟩:∃ V,E.size=V:=⟨_,rfl⟩;have wl:IntKind.i64.wrap ((V:Int) - 1)=((V - 1:Nat):Int):=by rw[kB5];omega
   clear hv Y h3 hE;rw[qY] at f1 f2;clear g0 hr qZ;by_cases hl:V=2
   ·obtain⟨T,F⟩:∃ T:UInt8,E[1]' ω=T:=⟨_,rfl⟩;have qX:128≤T.toNat:=by
     have:=f3 ω
     rw[←F];simpa [qY,hl] using this
    subst hl;have kk:∀ w,Ca 228 #[.string ByteArray.empty,.int .u8 (T.toNat:Int)] w fun e w'=>e=.returned (iV (-1))∧w'=w:=fun w=>Tryz.strings_IndexByte ByteArray.empty (T.toNat:Int) w;have x2:IntKind.i64.wrap (1+1)=2:=by decide
    have x3:IntKind.i64.wrap 2=2:=by decide
    have ne:((J.toNat:Int)==(T.toNat:Int))=false:=by rw[kN2];omega
    have gs:∀ h,(s[1]'h).toNat=J.toNat:=fun h=>by rw[D]
    have gE:∀ h,(E[1]'h).toNat=T.toNat:=fun h=>by rw[F]
    have x1:(1:Int)<2:=by decide
    clear f3 f1 f2 D F H
    go_enter Tryz.func171,Tryz.ntmps171
    go_wp2_with (first|(go_at_call 229;refine(I _).mono ?_;rintro e w' ⟨rfl,u⟩;replace u:=u.symm;subst u))
    go_step3
    go_wp2_with fail
    go_loopg [9] 0 (fun g v W=>v=iV 1∧W=w)
    case atStart=>exact⟨rfl,rfl⟩
    case round =>
     obtain⟨rfl,u⟩:=hrel;replace u:=u.symm;subst u
     go_wp2_with fail
     go_step3
     go_upto_region 6 with fail
     go_quiet (fail)
     have HB:Hid (Below w.heap.size w (w.drewN nq)):=qH9 bR _
     go_upto_region 7 with fail;generalize w.drewN nq=w1 at *
     go_quiet (first|(go_at_call 228;refine Calls.quiet_of_same (kk _)))
     go_wp2;rw[Exit.noGoto_ret];simp only[Exit.inBlock,Exit.then,Exit.noGoto_ret]
     go_ret;exact⟨rfl,qH9 HB.out _⟩
   ·have hn:¬ ((V - 1:Nat):Int)<2:=ω;clear f3 H D hl f1 f2
    go_enter Tryz.func171,Tryz.ntmps171
    go_wp2_with (first|(go_at_call 229;refine(I _).mono ?_;rintro e w' ⟨rfl,u⟩;replace u:=u.symm;subst u))
    go_step3
    go_wp2_with fail
    go_loopg [9] 0 (fun g v W=>v=iV ((V - 1:Nat):Int)∧W=w)
    case atStart=>exact⟨rfl,rfl⟩
    case round =>
     obtain⟨rfl,u⟩:=hrel;replace u:=u.symm;subst u
     go_wp2;rw[Exit.noGoto_ret]
     go_ret;exact⟨rfl,kH9 _ _⟩
def asc (L:List UInt8):Bool:=L.all (fun c=>decide (c.toNat<128))
def IxA (L M:List UInt8) (v:Int):Prop:=((asc L=true∨8<L.length)→v=Lib.indexAny L M)∧(v = -1∨∃ i,i<L.length∧v=(i:Int)∧∃ c,L[i]?=some c∧M.contains c=true)
theorem kU1 (L:List UInt8) (c0 c1:UInt8) (h0:c0.toNat<128) (h1:c1.toNat<128) (w:World) (h8:L.length≤8) :
  Calls Tryz.prog 117 #[.string ⟨L.toArray⟩,.string ⟨#[c0,c1]⟩] w fun e w'=>∃ v:Int,e=.returned (.int .i64 v)∧(v = -1∨∃ i,i<L.length∧v=(i:Int)∧∃ c,L[i]?=some c ∧ [c0,c1].contains c=true)∧Bw w w':=by
 obtain⟨s,hs⟩:∃ s:ByteArray,s=⟨L.toArray⟩:=⟨_,rfl⟩;obtain⟨t,ht⟩:∃ t:ByteArray,t=⟨#[c0,c1]⟩:=⟨_,rfl⟩;have hsz:s.size=L.length:=by rw[hs];rfl
 have htz:t.size=2:=by rw[ht];rfl
 have hte:t.toList.isEmpty=false:=by rw[Lib.toList_data,ht];rfl
 have Hl:Hid (∀ i (h:i<s.size),L[i]?=some (s[i]'h)):=fun i h=>by
  have h2:i<L.length:=ω;subst hs;rw[List.getElem?_eq_getElem h2];rfl
 have kr:∀ (r:Int) W,128≤r→r≤2147483647→Calls Tryz.prog 171 #[.string t,.int .i32 r] W fun e w'=>e=.returned (.int .i64 (-1))∧Bw W w':=fun r W a b=>by rw[ht];exact xM6 c0 c1 h0 h1 r a b W
 have ka:∀ (r:Int) W,0≤r→r<128→Calls Tryz.prog 171 #[.string t,.int .i32 r] W fun e w'=>e=.returned (.int .i64 (Lib.indexByte [c0,c1] r.toNat.toUInt8))∧w'=W:=fun r W a b=>by
  have h:=Tryz.strings_IndexRune_ascii t r W a b;rw[ht] at h ⊢;exact h
 have ku:=Tryz.strings_shouldUseASCIISet;rw[←hs,←ht];clear hs ht
 go_enter Tryz.func117,Tryz.ntmps117;have hu:∀ W,Calls Tryz.prog 172 #[.int .i64 (L.length:Int)] W fun e w'=>e=.returned (.bool false)∧w'=W:=fun W=>by
  have h:=ku (L.length:Int) W;rw[show decide ((8:Int)<(L.length:Int))=false from kF1 ω] at h;exact h
 clear ku;obtain⟨n,hn⟩:∃ n,L.length=n:=⟨_,rfl⟩;rw[hn] at hsz h8
 go_wp2_with (first|(go_at_call 172;rw[hn] at hu;refine(hu _).mono ?_;rintro e w' ⟨rfl,hw⟩;replace hw:=hw.symm;subst hw))
 go_loopg [9,10] n (fun g _ _ wx=>∃ p:Nat,n≤p+g∧Hid (wx.heap[w.heap.size]?=some (.stringIter s p)∧Bw w wx))
 case atStart=>exact⟨0,ω,⟨World.iter_heap _ _ _,qW0 _ _ _⟩⟩
 case round =>
  obtain⟨p,hpg,HI⟩:=hrel;by_cases hp:p<n
  ·have hp':p<s.size:=ω;have hnx:=fun ty=>Lib.run_next_any_at (P:=Tryz.prog) wr w.heap.size s p ty HI.out.1 hp';obtain⟨x,hx⟩:∃ x:UInt8,s[p]'hp'=x:=⟨_,rfl⟩;have HX:Hid (L[p]?=some x):=(by rw[Hl.out p hp',hx]:L[p]?=some x)
   have hd2:1≤(Utf8.decode s p).2:=by
    by_cases h:(s[p]'hp').toNat<128
    ·rw[decode_ascii s p hp' h];exact kH8 1
    ·exact(decode_high s p hp' ω).2
   have HN:Hid ((wr.iterAt w.heap.size s (p+(Utf8.decode s p).2)).heap[w.heap.size]?=some (.stringIter s (p+(Utf8.decode s p).2))∧Below w.heap.size w (wr.iterAt w.heap.size s (p+(Utf8.decode s p).2))):=⟨Lib.iterAt_heap _ _ _ _ _ HI.out.1,Lib.below_iterAt HI.out.2 lR _ _⟩;generalize hp2:p+(Utf8.decode s p).2=p2 at *;have hpp:p<p2:=ω;generalize wr.iterAt w.heap.size s p2=W2 at *;by_cases ha:x.toNat<128
   ·have hd1:(Utf8.decode s p).1=x.toNat:=by rw[decode_ascii s p hp' (by rw[hx];exact ha),hx]
    rw[hd1] at hnx;have hk:=ka (x.toNat:Int) W2 ω ω;have hback:((x.toNat:Int)).toNat.toUInt8=x:=by simp
    rw[hback] at hk;have hcon:=Lib.contains_iff_indexByte [c0,c1] x;clear hd2 hd1 hp2 hx ka kr hback;cases hin : [c0,c1].contains x
    ·rw[hin] at hcon;have hlt:¬ ((0:Int)≤Lib.indexByte [c0,c1] x):=of_decide_eq_false hcon.symm;clear hcon;generalize Lib.indexByte [c0,c1] x=v at *
     go_wp2_with fail;refine hk.mono ?_;rintro e w' ⟨rfl,hw⟩;replace hw:=hw.symm;subst hw
     go_wp2
     go_roundg (gk - 1)
     case measure=>omega
     case rel=>exact⟨p2,ω,HN⟩
    ·rw[hin] at hcon;have hge:(0:Int)≤Lib.indexByte [c0,c1] x:=of_decide_eq_true hcon.symm;clear hcon;generalize Lib.indexByte [c0,c1] x=v at *;have HC:Hid ([c0,c1].contains x=true):=hin;clear hin
     go_wp2_with fail;refine hk.mono ?_;rintro e w' ⟨rfl,hw⟩;replace hw:=hw.symm;subst hw
     go_wp2
     go_ret;exact⟨_,rfl,.inr ⟨p,ω,rfl,x,HX.out,HC.out⟩,HN.out.2⟩
   ·have hd1:=(decode_high s p hp' (by rw[hx];omega)).1
    have hd3:=decode_le s p;have hk:=kr ((Utf8.decode s p).1:Int) W2 ω ω;generalize (Utf8.decode s p).1=r at *;clear hd2 hd1 hd3 hp2 hx ka kr
    go_wp2_with fail;refine hk.mono ?_;rintro e w3 ⟨rfl,hb⟩;have HN3:Hid (w3.heap[w.heap.size]?=some (.stringIter s p2)∧Bw w w3):=⟨(hb.block _ (Array.getElem?_eq_some_iff.1 HN.out.1).1).trans HN.out.1,HN.out.2.trans (hb.mono HN.out.2.size)⟩;clear hk hb HN
    go_wp2
    go_roundg (gk - 1)
    case measure=>omega
    case rel=>exact⟨p2,ω,HN3⟩
  ·have hp':¬ p<s.size:=ω;have hnx:=fun ty=>Lib.run_next_end_at (P:=Tryz.prog) wr w.heap.size s p ty HI.out.1 hp';clear ka kr
   go_wp2
   go_ret;exact⟨_,rfl,.inl rfl,HI.out.2⟩
theorem yM2:(∀ w,(zeroValue 158).run Tryz.prog w=.ok (.agg (Array.replicate 256 (.bool false))) w)∧(Tryz.prog.info? 158).map (·.size)=some 256:=zero_of_info (by kernel_rfl)
theorem qB5 (L M:List UInt8):Lib.indexAny L M = -1∨∃ i,i<L.length∧Lib.indexAny L M=(i:Int)∧∃ c,L[i]?=some c∧M.contains c=true:=by
 induction L with
 | nil=>exact .inl rfl
 | cons b l ih =>
  unfold Lib.indexAny;by_cases Y:M.contains b=true
  ·rw[kU6 Y];exact .inr ⟨0,by simp,rfl,b,rfl,Y⟩
  ·rw[kU5 Y];rcases ih with h|⟨i,F,H,c,V,J⟩
   ·rw[h];exact .inl rfl
   ·rw[H];have u:((i:Int) == -1)=false:=by rw[kN2];omega
    rw[u];exact .inr ⟨i+1,by simp;omega,by simp,c,by simpa using V,J⟩
theorem Dany (L:List UInt8) (J Y:UInt8) (T:J.toNat<128) (D:Y.toNat<128) (w:World) (hL:L.length≤1100000) :
  Ca 117 #[.string ⟨L.toArray⟩,.string ⟨#[J,Y]⟩] w fun e w'=>∃ v:Int,e=.returned (iV v)∧IxA L [J,Y] v∧Bw w w':=by
 have I:∀ (j:Nat) (b:UInt8),(⟨#[J,Y]⟩:ByteArray).data.toList[j]?=some b→b.toNat<128:=fun j b V=>by
  have u:=V;rcases(by omega:j=0∨j=1∨2≤j)with rfl|rfl|h
  ·obtain rfl:J=b:=by simpa using u
   exact T
  ·obtain rfl:Y=b:=by simpa using u
   exact D
  ·rw[List.getElem?_eq_none (by simpa using h)] at u
   cases u
 have C:(⟨L.toArray⟩:ByteArray).size=L.length:=rfl;by_cases F:L.length≤8
 ·by_cases H:asc L=true
  ·refine(Tryz.strings_IndexAny_short ⟨L.toArray⟩ ⟨#[J,Y]⟩ w (by show 2≤2;omega) F ?_).mono ?_
   ·intro j b V;have u:L[j]?=some b:=by simpa using V
    have:=List.all_eq_true.1 H b (List.mem_of_getElem? u)
    simpa using this
   ·rintro e w' ⟨rfl,p,rfl⟩;exact⟨_,rfl,⟨fun _=>rfl,qB5 _ _⟩,qW0 _ _ _⟩
  ·refine(kU1 L J Y T D w F).mono ?_
   rintro e w' ⟨v,rfl,W,V⟩;exact⟨v,rfl,⟨fun h=>(h.elim H ω).elim,W⟩,V⟩
 ·refine(Tryz.strings_IndexAny_long yM2.1 ⟨L.toArray⟩ ⟨#[J,Y]⟩ w (by show 2≤2;omega) ω ω (by show 2<_;omega) I).mono ?_
  rintro e w' ⟨rfl,rfl⟩;exact⟨_,rfl,⟨fun _=>rfl,qB5 _ _⟩,(bR.alloc lR _).alloc (by simp) _⟩
def dvP (b:Nat) (L:List UInt8):Nat→Nat
 | 0=>0
 | i+1=>dvP b L i*b+dgB (bL L i)
theorem zU5 {b:Nat} {L:List UInt8}:∀ {i:Nat},(∀ j,j<i→dgB (bL L j)<b)→dvP b L i<b^i
 | 0,_=>Nat.one_pos
 | i+1,h=>by
  have Y:=zU5 (i:=i) fun j J=>h j ω;have V:=h i ω;show dvP b L i*b+dgB (bL L i)<b^(i+1)
  rw[kN5];have u:(dvP b L i+1)*b≤b^i*b:=kF5 _ Y;rw[Nat.add_mul] at u;omega
theorem xQ4 (L:List UInt8) (i:Nat):btA ⟨L.toArray⟩ i=bL L i:=by
 unfold btA bL;simp
theorem kQ4 {c:Nat} (h:dgB c<10):48≤c∧c≤57:=by
 unfold dgB at h;split at h
 ·assumption
 ·split at h <;> omega
theorem kQ3 {c:Nat} (u:¬ (48≤c∧c≤57)) (h:dgB c<16):97≤lowB c∧lowB c≤102:=by
 unfold dgB at h;rw[kU5 u] at h;split at h
 ·assumption
 ·omega
theorem kV9 (L:List UInt8) (w:World) (hs:L.length≤15) (qZ:0<L.length) (hd:∀ j,j<L.length→dgB (bL L j)<10) :
  Calls Tryz.prog 233 #[.string ⟨L.toArray⟩,.int .i64 10,.int .i64 64] w fun r w'=>r=.returned (.tuple #[.int .u64 ((dvP 10 L L.length:Nat):Int),.nilIface])∧Bw w w':=by
 obtain⟨s,Y⟩:∃ s:ByteArray,s=⟨L.toArray⟩:=⟨_,rfl⟩;have qV:s.size=L.length:=by rw[Y];rfl
 have h0:s.toList.isEmpty=false:=by
  rw[Lib.toList_data,Y];cases L with
  | nil=>simp at qZ
  | cons a t=>rfl
 obtain⟨cap,W,hc,hB,V⟩:=zQ7 s w;have HB:Hid (Bw w W):=hB;have HC:Hid (∀ j,j<L.length→W.cell? ⟨w.heap.size,j,none⟩=some (.int .u8 ((bL L j:Nat):Int))):=fun j hj=>by
  rw[V j ω,Y,xQ4]
 have HD:Hid (∀ j,j<L.length→dgB (bL L j)<10):=hd;rw[←Y];clear hB V hd Y;have qK:IntKind.u64.wrap 18446744073709551616=0:=by decide
 have qX:IntKind.u64.wrap (0 - 1)=18446744073709551615:=by decide
 have qY:IntKind.u64.wrap (-1)=18446744073709551615:=by decide
 rw[qV] at hc;generalize hn:L.length=n at *
 go_enter Tryz.func233,Tryz.ntmps233
 go_wp2_with fail;clear hc qK qX qY
 go_loopw [101,13,12] (fun i v u wr=>∃ j:Nat,j≤n∧i=.int .i64 (j:Int)∧v=.int .u64 ((dvP 10 L j:Nat):Int)∧u=.bool false∧wr=W) (fun i _ _ _=>n - (intOf i).toNat)
 case atStart=>exact⟨0,ω,rfl,rfl,rfl,rfl⟩
 case round =>
  obtain⟨j,hj,rfl,rfl,rfl,rfl⟩:=hrel;by_cases T:j<n
  ·have qF:=HC.out j T;have hb:=yL2 L j;have qG:=yK2 hb;have hp:dvP 10 L j<10^j:=zU5 fun k hk=>HD.out k ω;have qU:dvP 10 L j<72057594037927936:=kF6 hp (kF8 (kF4 ω (show j≤14 by omega)) δ)
   have kl:=xQ0 (bL L j) hb;have C:=HD.out j T;have HS:Hid (dvP 10 L (j+1)=dvP 10 L j*10+dgB (bL L j)):=rfl;generalize qB:bL L j=c at *;generalize qJ:dvP 10 L j=v at *;have J:48≤c∧c≤57:=kQ4 C;obtain⟨D,I⟩:∃ D:Nat,D=dgB c:=⟨_,rfl⟩;have qH:=yU4 J.1 J.2;have qQ:D<10:=ω;have q0:((c:Int)==95)=false:=by rw[kN2];omega
   have q1:(48:Int)≤(c:Int):=ω;have q2:(c:Int)≤57:=ω;have q3:IntKind.u8.wrap ((c:Int) - 48)=(D:Int):=by rw[IntKind.wrap_u8];omega
   obtain⟨M,hM⟩:∃ M:Nat,M=v*10:=⟨_,rfl⟩;obtain⟨F,hN⟩:∃ F:Nat,F=M+D:=⟨_,rfl⟩;have v1:IntKind.u64.wrap ((v:Int)*10)=(M:Int):=by rw[kB6];omega
   have v2:IntKind.u64.wrap ((M:Int)+(D:Int))=(F:Int):=by rw[kB6];omega
   have v3:IntKind.u64.wrap (D:Int)=(D:Int):=by rw[kB6];omega
   have v4:IntKind.u8.wrap 10=10:=by decide
   have v5:IntKind.u64.wrap 10=10:=by decide
   have HN:Hid (dvP 10 L (j+1)=F):=(by rw[HS.out,←I];omega:dvP 10 L (j+1)=F)
   have y1:decide ((10:Int)≤(D:Int))=false:=kF1 ω;have y2:decide ((1844674407370955162:Int)≤(v:Int))=false:=kF1 ω;have y3:decide ((F:Int)<(M:Int))=false:=kF1 ω;have y4:decide ((18446744073709551615:Int)<(F:Int))=false:=kF1 ω;clear hN hM hp qU I HS qJ qB qG J qH hb qQ C
   go_upto_region 46 with (first|(go_at_call 266;refine(kl _).mono ?_;rintro e w' ⟨rfl,H⟩;replace H:=H.symm;subst H))
   clear q0 q1 q2 q3 kl;clear h0 qZ hn qF
   go_upto_region 48 with fail
   go_upto_region 50 with fail
   go_wp2_with fail
   go_roundw
   case rel=>exact⟨j+1,ω,by simp,by rw[HN.out],(by first|rfl|trivial),(by first|rfl|trivial)⟩
   case measure=>simp[intOf];omega
   all_goals (exfalso;have q:=of_decide_eq_false y3;omega)
  ·obtain rfl:n=j:=ω
   go_wp2_with fail;refine kB8 (kM3 rfl _ _ _) rfl ?_;exact⟨rfl,HB.out⟩
theorem kV8 (L:List UInt8) (w:World) (hs:L.length≤15) (qY:0<L.length) (hd:∀ j,j<L.length→dgB (bL L j)<16) :
  Calls Tryz.prog 233 #[.string ⟨L.toArray⟩,.int .i64 16,.int .i64 64] w fun r w'=>r=.returned (.tuple #[.int .u64 ((dvP 16 L L.length:Nat):Int),.nilIface])∧Bw w w':=by
 obtain⟨s,F⟩:∃ s:ByteArray,s=⟨L.toArray⟩:=⟨_,rfl⟩;have qS:s.size=L.length:=by rw[F];rfl
 have h0:s.toList.isEmpty=false:=by
  rw[Lib.toList_data,F];cases L with
  | nil=>simp at qY
  | cons a t=>rfl
 obtain⟨cap,W,hc,hB,T⟩:=zQ7 s w;have HB:Hid (Bw w W):=hB;have HC:Hid (∀ j,j<L.length→W.cell? ⟨w.heap.size,j,none⟩=some (.int .u8 ((bL L j:Nat):Int))):=fun j hj=>by
  rw[T j ω,F,xQ4]
 have HD:Hid (∀ j,j<L.length→dgB (bL L j)<16):=hd;rw[←F];clear hB T hd F;have qD:IntKind.u64.wrap 18446744073709551616=0:=by decide
 have qP:IntKind.u64.wrap (0 - 1)=18446744073709551615:=by decide
 have qM:IntKind.u64.wrap (-1)=18446744073709551615:=by decide
 rw[qS] at hc;generalize hn:L.length=n at *
 go_enter Tryz.func233,Tryz.ntmps233
 go_wp2_with fail;clear hc qD qP qM
 go_loopw [101,13,12] (fun i v u wr=>∃ j:Nat,j≤n∧i=.int .i64 (j:Int)∧v=.int .u64 ((dvP 16 L j:Nat):Int)∧u=.bool false∧wr=W) (fun i _ _ _=>n - (intOf i).toNat)
 case atStart=>exact⟨0,ω,rfl,rfl,rfl,rfl⟩
 case round =>
  obtain⟨j,hj,rfl,rfl,rfl,rfl⟩:=hrel;by_cases qJ:j<n
  ·have qU:=HC.out j qJ;have hb:=yL2 L j;have qV:=yK2 hb;have hp:dvP 16 L j<16^j:=zU5 fun k hk=>HD.out k ω;have qK:dvP 16 L j<72057594037927936:=kF6 hp (kF8 (kF4 ω (show j≤14 by omega)) δ)
   have kl:=xQ0 (bL L j) hb;have qZ:=HD.out j qJ;have HS:Hid (dvP 16 L (j+1)=dvP 16 L j*16+dgB (bL L j)):=rfl;generalize qG:bL L j=c at *;generalize qX:dvP 16 L j=v at *;by_cases J:48≤c∧c≤57
   ·obtain⟨D,C⟩:∃ D:Nat,D=dgB c:=⟨_,rfl⟩;have qQ:=yU4 J.1 J.2;have I:D<16:=ω;have q0:((c:Int)==95)=false:=by rw[kN2];omega
    have q1:(48:Int)≤(c:Int):=ω;have q2:(c:Int)≤57:=ω;have q3:IntKind.u8.wrap ((c:Int) - 48)=(D:Int):=by rw[IntKind.wrap_u8];omega
    obtain⟨M,hM⟩:∃ M:Nat,M=v*16:=⟨_,rfl⟩;obtain⟨H,hN⟩:∃ H:Nat,H=M+D:=⟨_,rfl⟩;have v1:IntKind.u64.wrap ((v:Int)*16)=(M:Int):=by rw[kB6];omega
    have v2:IntKind.u64.wrap ((M:Int)+(D:Int))=(H:Int):=by rw[kB6];omega
    have v3:IntKind.u64.wrap (D:Int)=(D:Int):=by rw[kB6];omega
    have v4:IntKind.u8.wrap 16=16:=by decide
    have v5:IntKind.u64.wrap 16=16:=by decide
    have HN:Hid (dvP 16 L (j+1)=H):=(by rw[HS.out,←C];omega:dvP 16 L (j+1)=H)
    have y1:decide ((16:Int)≤(D:Int))=false:=kF1 ω;have y2:decide ((1152921504606846976:Int)≤(v:Int))=false:=kF1 ω;have y3:decide ((H:Int)<(M:Int))=false:=kF1 ω;have y4:decide ((18446744073709551615:Int)<(H:Int))=false:=kF1 ω;clear hN hM hp qK C HS qX qG qV J qQ hb I qZ
    go_upto_region 46 with (first|(go_at_call 266;refine(kl _).mono ?_;rintro e w' ⟨rfl,V⟩;replace V:=V.symm;subst V))
    clear q0 q1 q2 q3 kl;clear h0 qY hn qU
    go_upto_region 48 with fail
    go_upto_region 50 with fail
    go_wp2_with fail
    go_roundw
    case rel=>exact⟨j+1,ω,by simp,by rw[HN.out],(by first|rfl|trivial),(by first|rfl|trivial)⟩
    case measure=>simp[intOf];omega
    all_goals (exfalso;have q:=of_decide_eq_false y3;omega)
   ·have Y:97≤lowB c∧lowB c≤102:=kQ3 J qZ;have qH:c≠95:=by
     intro h;rw[h] at Y;exact absurd Y.2 δ
    have qF:57<c:=by
     apply Decidable.byContradiction
     intro h;have:=yK1 (show c<48 by omega)
     omega
    have qN:((c:Int)==95)=false:=by rw[kN2];omega
    have qd:¬ ((c:Int)≤57):=ω;have qe:(48:Int)≤(c:Int):=ω;obtain⟨D,C⟩:∃ D:Nat,D=dgB c:=⟨_,rfl⟩;have qQ:=xF7 J Y.1 Y.2;have I:D<16:=ω;obtain⟨L1,qB⟩:∃ L1:Nat,L1=lowB c:=⟨_,rfl⟩;rw[←qB] at kl Y qQ;obtain⟨L2,qR⟩:∃ L2:Nat,L2=L1 - 97:=⟨_,rfl⟩;have q1:(97:Int)≤(L1:Int):=ω;have q2:(L1:Int)≤122:=ω;have q3:IntKind.u8.wrap ((L1:Int) - 97)=(L2:Int):=by rw[IntKind.wrap_u8];omega
    have q4:IntKind.u8.wrap ((L2:Int)+10)=(D:Int):=by rw[IntKind.wrap_u8];omega
    obtain⟨M,hM⟩:∃ M:Nat,M=v*16:=⟨_,rfl⟩;obtain⟨H,hN⟩:∃ H:Nat,H=M+D:=⟨_,rfl⟩;have v1:IntKind.u64.wrap ((v:Int)*16)=(M:Int):=by rw[kB6];omega
    have v2:IntKind.u64.wrap ((M:Int)+(D:Int))=(H:Int):=by rw[kB6];omega
    have v3:IntKind.u64.wrap (D:Int)=(D:Int):=by rw[kB6];omega
    have v4:IntKind.u8.wrap 16=16:=by decide
    have v5:IntKind.u64.wrap 16=16:=by decide
    have HN:Hid (dvP 16 L (j+1)=H):=(by rw[HS.out,←C];omega:dvP 16 L (j+1)=H)
    have y1:decide ((16:Int)≤(D:Int))=false:=kF1 ω;have y2:decide ((1152921504606846976:Int)≤(v:Int))=false:=kF1 ω;have y3:decide ((H:Int)<(M:Int))=false:=kF1 ω;have y4:decide ((18446744073709551615:Int)<(H:Int))=false:=kF1 ω;clear hN hM hp qK C HS qX qG qV qB qR Y J qQ hb I qZ qH qF
    go_upto_region 46 with (first|(go_at_call 266;refine(kl _).mono ?_;rintro e w' ⟨rfl,V⟩;replace V:=V.symm;subst V))
    clear q1 q2 q3 q4 qd qe qN kl;clear h0 qY hn qU
    go_upto_region 48 with fail
    go_upto_region 50 with fail
    go_wp2_with fail
    go_roundw
    case rel=>exact⟨j+1,ω,by simp,by rw[HN.out],(by first|rfl|trivial),(by first|rfl|trivial)⟩
    case measure=>simp[intOf];omega
    all_goals (exfalso;have q:=of_decide_eq_false y3;omega)
  ·obtain rfl:n=j:=ω
   go_wp2_with fail;refine kB8 (kM3 rfl _ _ _) rfl ?_;exact⟨rfl,HB.out⟩
theorem xM5 (L:List UInt8) (w:World) (V:L.length≤15) (u:0<L.length) (Y:∀ j,j<L.length→dgB (bL L j)<10) :
  Ca 176 #[.string ⟨L.toArray⟩,iV 10,iV 64] w (Rq w (.tuple #[.int .u64 ((dvP 10 L L.length:Nat):Int),.nilIface])):=by
 have k:=kV9 L w V u Y;clear Y;generalize dvP 10 L L.length=D at *
 go_enter Tryz.func176,Tryz.ntmps176
 go_wp2_with fail;refine k.mono ?_;rintro r F ⟨rfl,J⟩;have H:Hid _:=J;clear k J
 go_wp2_with fail;refine kB8 (kM3 rfl _ _ _) rfl ?_;exact⟨rfl,H.out⟩
theorem xM4 (L:List UInt8) (w:World) (V:L.length≤15) (u:0<L.length) (Y:∀ j,j<L.length→dgB (bL L j)<16) :
  Ca 176 #[.string ⟨L.toArray⟩,iV 16,iV 64] w (Rq w (.tuple #[.int .u64 ((dvP 16 L L.length:Nat):Int),.nilIface])):=by
 have k:=kV8 L w V u Y;clear Y;generalize dvP 16 L L.length=D at *
 go_enter Tryz.func176,Tryz.ntmps176
 go_wp2_with fail;refine k.mono ?_;rintro r F ⟨rfl,J⟩;have H:Hid _:=J;clear k J
 go_wp2_with fail;refine kB8 (kM3 rfl _ _ _) rfl ?_;exact⟨rfl,H.out⟩
end Go.Proofs.YtfkaogdmlcdceaaGreatDoor
namespace Go.Proofs.YtfkaogdmlcdceaaGreatDoor
open Go.RowKit Go.Fl64
attribute [local go_sem] iV Nu
def rdE (L:List UInt8):Nat→Nat
 | 0=>0
 | k+1=>min (10*rdE L k+(bL L k - 48)) 6000
theorem yA7 (L:List UInt8) (k:Nat):rdE L k≤6000:=by
 cases k with
 | zero=>exact kB4 _
 | succ k=>exact Nat.min_le_right _ _
theorem yD9 {c:Nat} (h:isDg c 10=true):48≤c∧c≤57:=by
 unfold isDg at h;simp at h
 exact h
theorem zP4 (s D:List UInt8) (Y:Int) (w:World)
  (k1:∀ W,Ca 52 #[.string ⟨s.toArray⟩] W (Rq W (.tuple #[iV Y,.string ⟨D.toArray⟩])))
  (J:∀ W,Ca 120 #[.string ⟨D.toArray⟩,iV 10] W fun r w'=>r=.returned (.bool false)∧w'=W) :
  Ca 118 #[.string ⟨s.toArray⟩] w (Rq w (.tuple #[iV 0,.bool false])):=by
 go_enter Tryz.func118,Tryz.ntmps118
 go_wp2_with (first|(go_at_call 52;refine(k1 _).mono ?_;rintro r V ⟨rfl,u⟩)|(go_at_call 120;refine(J _).mono ?_;rintro r w' ⟨rfl,rfl⟩))
 refine kB8 (kM3 rfl _ _ _) rfl ?_;exact⟨rfl,u⟩
theorem zA0 (s D:List UInt8) (V:Int) (w:World) (hL:D.length≤2000000) (hs:V=1∨V = -1)
  (k1:∀ W,Ca 52 #[.string ⟨s.toArray⟩] W (Rq W (.tuple #[iV V,.string ⟨D.toArray⟩])))
  (k2:∀ W,Ca 120 #[.string ⟨D.toArray⟩,iV 10] W fun r w'=>r=.returned (.bool true)∧w'=W)
  (hd:Hid (∀ k,k<D.length→isDg (bL D k) 10=true)) :
  Ca 118 #[.string ⟨s.toArray⟩] w (Rq w (.tuple #[iV (V*rdE D D.length),.bool true])):=by
 have H:(⟨D.toArray⟩:ByteArray).size=D.length:=rfl;obtain⟨n,F⟩:=eE D.length;rw[←F] at H hL hd ⊢;have I:=zQ9 D;have Hn:Hid _:=F;have Hs:Hid _:=hs;clear F hs
 go_enter Tryz.func118,Tryz.ntmps118
 go_wp2_with (first|(go_at_call 52;refine(k1 _).mono ?_;rintro r w1 ⟨rfl,J⟩)|(go_at_call 120;refine(k2 _).mono ?_;rintro r w' ⟨rfl,rfl⟩))
 clear k1 k2
 rename World=>w0
 have HB:Hid _:=J;clear J
 go_loopw [6,18] (fun e v wr=>∃ i:Nat,i≤n∧e=iV (rdE D i:Nat)∧v=iV i∧wr=w0) (fun _ v _=>n - (intOf v).toNat)
 case atStart=>exact⟨0,kB4 _,rfl,rfl,rfl⟩
 case round =>
  obtain⟨i,hi,rfl,rfl,rfl⟩:=hrel;obtain⟨E,u⟩:=eE (rdE D i);have qG:E≤6000:=by rw[u];exact yA7 _ _
  rw[←u];by_cases L:i<n
  ·have T:(i:Int)<(n:Int):=ω;obtain⟨c,hc⟩:=eE (bL D i);have qQ:=yD9 (hd.out i L);have C:=I i;rw[←hc] at qQ C;have qY:IntKind.i64.wrap ((i:Int)+1)=(i:Int)+1:=by rw[kB5];omega
   obtain⟨q,hq⟩:∃ q,c=48+q:=⟨c - 48,ω⟩;have qV:IntKind.i64.wrap (10*(E:Int))=10*E:=by rw[kB5];omega
   have qJ:IntKind.u8.wrap ((c:Int) - 48)=(q:Int):=by rw[IntKind.wrap_u8];omega
   have qK:IntKind.i64.wrap (q:Int)=(q:Int):=by rw[kB5];omega
   have qX:IntKind.i64.wrap (10*(E:Int)+q)=10*E+q:=by rw[kB5];omega
   obtain⟨M,hM⟩:=eE (rdE D (i+1));have Y:min (10*(E:Int)+q) 6000=(M:Int):=by
    rw[hM];unfold rdE;rw[←u,←hc,hq];omega
   have HM:Hid _:=hM;clear hM u hc I
   go_wp2;have qZ:(48+(q:Int) - 48)=q:=ω;rw[qZ,Y];refine⟨⟨i+1,ω,by rw[HM.out],by push_cast;rfl,trivial⟩,by simp[intOf];omega⟩
  ·have T:¬ (i:Int)<(n:Int):=ω;obtain rfl:i=n:=ω;have HE:Hid _:=u;clear I u;rcases Hs.out with rfl|rfl
   ·have hw:IntKind.i64.wrap (1*(E:Int))=1*E:=by rw[kB5];omega
    go_wp2;refine kB8 (kM3 rfl _ _ _) rfl ?_;rw[←HE.out];exact⟨rfl,HB.out⟩
   ·have hw:IntKind.i64.wrap (-1*(E:Int)) = -1*E:=by rw[kB5];omega
    have qU:IntKind.i64.wrap (-(E:Int)) = -E:=by rw[kB5];omega
    go_wp2;refine kB8 (kM3 rfl _ _ _) rfl ?_;rw[←HE.out];refine⟨?_,HB.out⟩
    simp
def csS (s:List UInt8):Int:=if s.head?=some 45 then -1 else 1
def csD (s:List UInt8):List UInt8:=if s.head?=some 45∨s.head?=some 43 then s.tail else s
theorem zA4 (s:List UInt8) (w:World) (hL:s.length≤2000000)
  (k1:∀ W,Ca 116 #[.string ⟨s.toArray⟩,.string ⟨#[45]⟩] W fun r w'=>r=.returned (.bool (s.head?==some 45))∧w'=W)
  (F:∀ W,Ca 116 #[.string ⟨s.toArray⟩,.string ⟨#[43]⟩] W fun r w'=>r=.returned (.bool (s.head?==some 43))∧w'=W) :
  Ca 52 #[.string ⟨s.toArray⟩] w (Rq w (.tuple #[iV (csS s),.string ⟨(csD s).toArray⟩])):=by
 have I:=qJ3 s 1;rw[List.drop_one] at I;have L:(⟨s.toArray⟩:ByteArray).size=s.length:=rfl;by_cases Y:s.head?=some 45
 ·have C:(1:Int)≤(s.length:Int):=by cases s with|nil=>simp at Y|cons a t=>rw[kG2];omega
  have H:csS s = -1:=by unfold csS;rw[kU6 Y]
  have e2:csD s=s.tail:=by unfold csD;rw[kU6 (.inl Y)]
  have V:(s.head?==some 45)=true:=by rw[Y];rfl
  rw[V] at k1;rw[H,e2];clear H e2 Y V F
  go_enter Tryz.func52,Tryz.ntmps52
  go_wp2_with (first|(go_at_call 116;refine(k1 _).mono ?_;rintro r w' ⟨rfl,rfl⟩))
  go_quiet (fail)
  go_wp2;refine kB8 (kM3 rfl _ _ _) rfl ?_;exact⟨rfl,qH9 bR nq⟩
 ·have V:(s.head?==some 45)=false:=by simp[Y]
  have H:csS s=1:=by unfold csS;rw[kU5 Y]
  rw[V] at k1;rw[H];by_cases J:s.head?=some 43
  ·have C:(1:Int)≤(s.length:Int):=by cases s with|nil=>simp at J|cons a t=>rw[kG2];omega
   have e2:csD s=s.tail:=by unfold csD;rw[kU6 (.inr J)]
   have u:(s.head?==some 43)=true:=by rw[J];rfl
   rw[u] at F;rw[e2];clear H e2 Y J V u
   go_enter Tryz.func52,Tryz.ntmps52
   go_wp2_with fail;refine(k1 _).mono ?_
   rintro r T ⟨rfl,rfl⟩
   go_wp2_with fail;refine(F _).mono ?_
   rintro r D ⟨rfl,rfl⟩
   go_wp2_with fail
   go_quiet (fail)
   go_wp2;refine kB8 (kM3 rfl _ _ _) rfl ?_;exact⟨rfl,qH9 bR nq⟩
  ·have e2:csD s=s:=by unfold csD;rw[kU5 (fun h=>h.elim Y J)]
   have u:(s.head?==some 43)=false:=by simp[J]
   rw[u] at F;rw[e2];clear H e2 Y J V u
   go_enter Tryz.func52,Tryz.ntmps52
   go_wp2_with fail;refine(k1 _).mono ?_
   rintro r T ⟨rfl,rfl⟩
   go_wp2_with fail;refine(F _).mono ?_
   rintro r D ⟨rfl,rfl⟩
   go_wp2;refine kB8 (kM3 rfl _ _ _) rfl ?_;exact⟨rfl,kH9 _ _⟩
theorem yW2 (k:Int) (T1 T2:Bool×Nat×Int) (w:World)
  (k1:∀ W,Bw w W→Ca 99 #[iV 1] W fun r w'=>OutP W T1 r w') (k2:Hid (∀ W X,Bw w W→PN W X T1→Ca 140 #[X,iV k] W fun r w'=>OutA W T2 r w')):Ca 179 #[iV k] w fun r w'=>qT3 w T2 T1 r w':=by
 obtain⟨W,hW⟩:=eE (w.alloc (.cells #[.bool false,.slice none 0 0,iV 0,.bool false,.slice none 0 0,iV 0] 104));have D:Hid (Hx W w.heap.size #[.bool false,.slice none 0 0,iV 0,.bool false,.slice none 0 0,iV 0] 104∧Bw w W):=(by rw[hW];exact⟨kB7 _ _,bR.alloc lR _⟩:_∧_)
 have T:=k1 W D.out.2;have qQ:Hid _:=k1;clear k1
 go_enter Tryz.func179,Tryz.ntmps179
 go_upto_region 1 with fail;rw[←hW];clear hW
 go_wp2_with fail;refine T.mono ?_;rintro r w0 ⟨s0,qV,n0,qJ,e0,rfl,C,V⟩;clear T;have u:Hid _:=And.intro (qQ0 D.out.1 V (qQ7 D.out.1)) (D.out.2.trans (V.mono D.out.2.size));have L:=k2.out w0 _ u.out.2 C;clear C V D k2
 go_wp2_with fail;refine L.mono ?_;rintro r w1 ⟨s1,qK,n1,qY,e1,rfl,I,J⟩;clear L;have F:Hid _:=aI3 (qQ0 u.out.1 J (qQ7 u.out.1)) (u.out.2.trans (J.mono u.out.2.size)) I;have L:=qQ.out w1 F.out.2.1;clear I J u qQ
 go_wp2_with fail;refine L.mono ?_;rintro r w2 ⟨s2,qX,n2,qZ,e2,rfl,I,Y⟩;clear L;have H:Hid _:=aI4 (qQ0 F.out.1 Y (qQ7 F.out.1)) (F.out.2.1.trans (Y.mono F.out.2.1.size)) (F.out.2.2.later Y) I;clear I Y F;obtain⟨⟨c0,c1,c2,c3,c4,c5⟩,d0,d1,d2,d3,d4,d5⟩:=qU1 H.out.1
 go_wp2_with fail;refine kB8 (kM2 rfl _ _ w.heap.size 104 #[.bool s1,.slice qK n1 qY,iV e1,.bool s2,.slice qX n2 qZ,iV e2] (0,0) _ rfl (qE4 _ _ _ _ _ _ H.out.1) Tryz.underlying104 rfl (by kernel_rfl)) rfl ?_
 exact⟨_,rfl,⟨_,_,_,_,_,_,_,_,_,_,rfl,H.out.2.2.1.set6 H.out.1 _ _ _ _ _ _,H.out.2.2.2.set6 H.out.1 _ _ _ _ _ _⟩,qB1 H.out.2.1 lR _ _ _ _ _ _⟩
theorem qH4 {w:World} {g:Nat} {a b c d:Value} {T:TypeId} (h:w.heap[g]?=some (.cells #[a,b,c,d] T (0,0))):w.cell? ⟨g,0,none⟩=some a∧w.cell? ⟨g,1,none⟩=some b∧w.cell? ⟨g,2,none⟩=some c∧w.cell? ⟨g,3,none⟩=some d:=by
 simp[World.cell?,h]
theorem yW8 (b h e:Int) (d:ByteArray) (I C:Bool×Nat×Int) (w:World) (hb:¬ b=16) (hh:0≤h∧h≤1000000) (he : -1000000≤e∧e≤1000000)
  (k1:Hid (∀ W,Bw w W→Ca 77 #[iV (e - h)] W fun r w'=>qT3 W I C r w')) :
  Ca 124 #[.agg #[iV b,.string d,iV h,iV e]] w fun r w'=>qT3 w I C r w':=by
 obtain⟨W,H⟩:=eE ((w.alloc (.cells #[iV b,.string d,iV h,iV e] 75)).alloc (.cells #[.bool false,.slice none 0 0,iV 0,.bool false,.slice none 0 0,iV 0] 104));obtain⟨m1,m2,m3,V⟩:=qG9 _ _ H;obtain⟨c0,c1,c2,c3⟩:=qH4 m1;have J:Hid _:=And.intro m2 V;have qY:IntKind.i64.wrap (4*h)=4*h:=by rw[kB5];omega
 have qZ:IntKind.i64.wrap (e - 4*h)=e - 4*h:=by rw[kB5];omega
 have qQ:IntKind.i64.wrap (e - h)=e - h:=by rw[kB5];omega
 have kk:=k1.out W V;clear m1 m2 m3 V k1 hh he
 skip
 go_enter Tryz.func124,Tryz.ntmps124
 go_upto_region 1 with fail;rw[←H];clear H
 go_wp2_with fail;refine kk.mono ?_;rintro r w1 ⟨_,rfl,⟨s1,L,n1,D,e1,s2,T,n2,F,e2,rfl,hp,hq⟩,u⟩;clear kk c0 c1 c2 c3;have Y:Hid _:=aI4 (qQ0 J.out.1 u (qQ7 J.out.1)) (J.out.2.trans (u.mono J.out.2.size)) hp hq;clear hp hq u J;obtain⟨⟨c0,c1,c2,c3,c4,c5⟩,d0,d1,d2,d3,d4,d5⟩:=qU1 Y.out.1
 go_wp2_with fail;refine kB8 (kM2 rfl _ _ (w.heap.size+1) 104 #[.bool s1,.slice L n1 D,iV e1,.bool s2,.slice T n2 F,iV e2] (0,0) _ rfl (qE4 _ _ _ _ _ _ Y.out.1) Tryz.underlying104 rfl (by kernel_rfl)) rfl ?_
 exact⟨_,rfl,⟨_,_,_,_,_,_,_,_,_,_,rfl,Y.out.2.2.1.set6 Y.out.1 _ _ _ _ _ _,Y.out.2.2.2.set6 Y.out.1 _ _ _ _ _ _⟩,qB1 Y.out.2.1 (Nat.le_succ _) _ _ _ _ _ _⟩
theorem yW7 (b h e:Int) (d:ByteArray) (I C:Bool×Nat×Int) (w:World) (hb:b=16) (hh:0≤h∧h≤1000000) (he : -1000000≤e∧e≤1000000)
  (k1:Hid (∀ W,Bw w W→Ca 179 #[iV (e - 4*h)] W fun r w'=>qT3 W I C r w')) :
  Ca 124 #[.agg #[iV b,.string d,iV h,iV e]] w fun r w'=>qT3 w I C r w':=by
 obtain⟨W,H⟩:=eE ((w.alloc (.cells #[iV b,.string d,iV h,iV e] 75)).alloc (.cells #[.bool false,.slice none 0 0,iV 0,.bool false,.slice none 0 0,iV 0] 104));obtain⟨m1,m2,m3,V⟩:=qG9 _ _ H;obtain⟨c0,c1,c2,c3⟩:=qH4 m1;have J:Hid _:=And.intro m2 V;have qY:IntKind.i64.wrap (4*h)=4*h:=by rw[kB5];omega
 have qZ:IntKind.i64.wrap (e - 4*h)=e - 4*h:=by rw[kB5];omega
 have qQ:IntKind.i64.wrap (e - h)=e - h:=by rw[kB5];omega
 have kk:=k1.out W V;clear m1 m2 m3 V k1 hh he;subst hb
 go_enter Tryz.func124,Tryz.ntmps124
 go_upto_region 1 with fail;rw[←H];clear H
 go_wp2_with fail;refine kk.mono ?_;rintro r w1 ⟨_,rfl,⟨s1,L,n1,D,e1,s2,T,n2,F,e2,rfl,hp,hq⟩,u⟩;clear kk c0 c1 c2 c3;have Y:Hid _:=aI4 (qQ0 J.out.1 u (qQ7 J.out.1)) (J.out.2.trans (u.mono J.out.2.size)) hp hq;clear hp hq u J;obtain⟨⟨c0,c1,c2,c3,c4,c5⟩,d0,d1,d2,d3,d4,d5⟩:=qU1 Y.out.1
 go_wp2_with fail;refine kB8 (kM2 rfl _ _ (w.heap.size+1) 104 #[.bool s1,.slice L n1 D,iV e1,.bool s2,.slice T n2 F,iV e2] (0,0) _ rfl (qE4 _ _ _ _ _ _ Y.out.1) Tryz.underlying104 rfl (by kernel_rfl)) rfl ?_
 exact⟨_,rfl,⟨_,_,_,_,_,_,_,_,_,_,rfl,Y.out.2.2.1.set6 Y.out.1 _ _ _ _ _ _,Y.out.2.2.2.set6 Y.out.1 _ _ _ _ _ _⟩,qB1 Y.out.2.1 (Nat.le_succ _) _ _ _ _ _ _⟩
def isR2 (f:Nat) (er:Int):World→Value→Prop:=isV (.tuple #[.float .f64 f,.int .i64 er])
theorem zE8 (b h e m sg er:Int) (d:ByteArray) (neg:Bool) (tw tz t1 t2 tm:Bool×Nat×Int) (f:Nat) (w:World) (qT:Hid (¬ sg=0))
  (k1:Hid (∀ W,Bw w W→Ca 121 #[.agg #[iV b,.string d,iV h,iV e]] W fun r w'=>OutA W tw r w'))
  (k2:Hid (∀ W X,Bw w W→PN W X tw→Ca 89 #[X] W fun r w'=>r=.returned (iV sg)∧Bw W w'))
  (k3:Hid (neg=true→∀ W X,Bw w W→PN W X tw→Ca 123 #[X] W fun r w'=>OutA W tz r w')) (hz:Hid (neg=false→tz=tw))
  (k4:Hid (∀ W,Bw w W→Ca 124 #[.agg #[iV b,.string d,iV h,iV e]] W fun r w'=>qT3 W t1 t2 r w'))
  (k5:Hid (∀ W X Y,Bw w W→PN W X tz→PN W Y t1→Ca 94 #[X,Y] W fun r w'=>OutA W tm r w'))
  (k6:Hid (∀ W X Y,Bw w W→PN W X tm→PN W Y t2→Ca 125 #[X,Y,iV m] W fun r w'=>r=.returned (.tuple #[.float .f64 f,iV er])∧Bw W w')) :
  Ca 56 #[.agg #[iV b,.string d,iV h,iV e],.bool neg,iV m] w fun r w'=>r=.returned (.float .f64 f)∧Bw w w':=by
 obtain⟨W,hW⟩:=eE (w.alloc (.cells #[iV b,.string d,iV h,iV e] 75));have m1:W.heap[w.heap.size]?=some (.cells #[iV b,.string d,iV h,iV e] 75 (0,0)):=by rw[hW];exact kB7 _ _
 have m4:Bw w W:=by rw[hW];exact bR.alloc lR _
 obtain⟨c0,c1,c2,c3⟩:=qH4 m1;have HC:Hid (W.heap[w.heap.size]?=some (.cells #[iV b,.string d,iV h,iV e] 75 (0,0))∧Bw w W):=⟨m1,m4⟩;have C:=k1.out W m4;clear m1 m4 k1
 go_enter Tryz.func56,Tryz.ntmps56
 go_upto_region 1 with fail;rw[←hW];clear hW
 go_wp2_with fail;refine C.mono ?_;rintro r w1 ⟨s1,F,n1,H,e1,rfl,hA,qJ⟩;clear C c0 c1 c2 c3;obtain⟨W1,qU⟩:=eE (w1.alloc (.cells (Nu s1 F n1 H e1) 50));have D:Bw w1 W1:=by rw[qU];exact bR.alloc lR _
 have n6:Hn W1 w1.heap.size s1 F n1 H e1 50:=by rw[qU];exact kB7 _ _
 go_upto_region 2 with fail;rw[←qU];clear qU;have qF:=hA.later D;have qZ:Bw W W1:=qJ.trans (D.mono qJ.size);have qL:w.heap.size<w1.heap.size:=kF6 (qQ7 HC.out.1) qJ.size;clear D hA qJ;generalize w1.heap.size=V at *;have H1:Hid (W1.heap[w.heap.size]?=some (.cells #[iV b,.string d,iV h,iV e] 75 (0,0))∧PBx W1 V s1 F n1 H e1 tw∧Bw w W1∧w.heap.size<V):=⟨qQ0 HC.out.1 qZ (qQ7 HC.out.1),⟨n6,qF⟩,HC.out.2.trans (qZ.mono HC.out.2.size),qL⟩;obtain⟨⟨c0,c1,c2⟩,-⟩:=qQ3 H1.out.2.1.1;have C:=k2.out W1 _ H1.out.2.2.1 qF;have zY:=qT.out;clear k2 n6 qF qZ qL HC qT
 go_wp2_with fail;refine C.mono ?_;rintro r w2 ⟨rfl,qK⟩;have L:Hid (w2.heap[w.heap.size]?=some (.cells #[iV b,.string d,iV h,iV e] 75 (0,0))∧PBx w2 V s1 F n1 H e1 tw∧Bw w w2∧w.heap.size<V):=⟨qQ0 H1.out.1 qK (qQ7 H1.out.1),H1.out.2.1.later qK,H1.out.2.2.1.trans (qK.mono H1.out.2.2.1.size),H1.out.2.2.2⟩;clear C qK H1 c0 c1 c2
 go_upto_if 19 with fail
 go_cut [] from 11 to 21 (fun wx=>∃ (s5:Bool) (qP:Option Addr) (n5 qN:Nat) (e5:Int),Hid (wx.heap[w.heap.size]?=some (.cells #[iV b,.string d,iV h,iV e] 75 (0,0))∧PBx wx V s5 qP n5 qN e5 tz∧Bw w wx∧w.heap.size<V))
 case first =>
  cases neg
  ·go_wp2
   go_meet
   obtain rfl:=hz.out (by first|rfl|trivial)
   exact⟨_,_,_,_,_,L⟩
  ·obtain⟨⟨c0,c1,c2⟩,g0,g1,g2⟩:=qQ3 L.out.2.1.1;have C:=k3.out rfl w2 _ L.out.2.2.1 L.out.2.1.2;clear k3
   go_wp2_with fail;refine C.mono ?_;rintro r w3 ⟨s3,zZ,n3,zQ,e3,rfl,hA,qX⟩;have H3:Hid ((w3.heap[w.heap.size]?=some (.cells #[iV b,.string d,iV h,iV e] 75 (0,0))∧PBx w3 V s1 F n1 H e1 tw∧Bw w w3∧w.heap.size<V)∧PN w3 (.agg (Nu s3 zZ n3 zQ e3)) tz):=⟨⟨qQ0 L.out.1 qX (qQ7 L.out.1),L.out.2.1.later qX,L.out.2.2.1.trans (qX.mono L.out.2.2.1.size),L.out.2.2.2⟩,hA⟩;clear C hA qX L c0 c1 c2 g0 g1 g2;obtain⟨⟨c0,c1,c2⟩,g0,g1,g2⟩:=qQ3 H3.out.1.2.1.1
   go_wp2
   go_meet
   have a:=H3.out;exact⟨_,_,_,_,_,⟨by rw[qH7 _ _ _ (Nat.ne_of_lt a.1.2.2.2)];exact a.1.1,⟨zF7 _ _ _ a.1.2.1.1,a.2.set3 a.1.2.1.1 _ _ _⟩,qL9 a.1.2.2.1 (kM8 a.1.2.2.2) _ _ _,a.1.2.2.2⟩⟩
 case rest =>
 obtain⟨s5,qP,n5,qN,e5,H4⟩:=hcut;clear L k3 hz;obtain⟨c0,c1,c2,c3⟩:=qH4 H4.out.1;have C:=k4.out _ H4.out.2.2.1;clear k4
 go_wp2_with fail;refine C.mono ?_;rintro r w5 ⟨_,rfl,⟨s1,F,n1,H,e1,s2,qD,n2,qM,e2,rfl,hp,hq⟩,qG⟩;clear C c0 c1 c2 c3;obtain⟨W5,qV⟩:=eE (w5.alloc (.cells #[.bool s1,.slice F n1 H,iV e1,.bool s2,.slice qD n2 qM,iV e2] 104));have D:Bw w5 W5:=by rw[qV];exact bR.alloc lR _
 have n6:W5.heap[w5.heap.size]?=some (.cells #[.bool s1,.slice F n1 H,iV e1,.bool s2,.slice qD n2 qM,iV e2] 104 (0,0)):=by rw[qV];exact kB7 _ _
 go_upto_region 7 with fail;rw[←qV];clear qV;have qQ:=qG.trans (D.mono qG.size);have p1:=hp.later D;have p2:=hq.later D;clear D hp hq qG;generalize w5.heap.size=qB at *;have m1:=H4.out.2.1.later qQ;have qY:=H4.out.2.2.1.trans (qQ.mono H4.out.2.2.1.size);clear H4 qQ;refine qJ2 [0,1,2,3,4,5,6,7,8,9,10,11,12] [25,26,27,28,29,30,31,32,24,33,34,9,10] [[],[],[1],[0,2],[],[4],[],[3,5,6],[7],[8],[8],[9],[10]] W5 _ [isV (.agg (Nu s5 qP n5 qN e5)),isV (.pointer (some ⟨qB,0,none⟩)),isV (.agg (Nu s1 F n1 H e1)),isP tm,isV (.pointer (some ⟨qB,3,none⟩)),isV (.agg (Nu s2 qD n2 qM e2)),isV (iV m),isR2 f er,isR2 f er,isV (.float .f64 f),isV (iV er),isV (.float .f64 f),isV (iV er)] (by kernel_rfl) ⟨qQ2 _,qQ2 _,qQ2 _,qX4 _,qQ2 _,qQ2 _,qQ2 _,qQ2 _,qQ2 _,qQ2 _,qQ2 _,qQ2 _,qQ2 _,trivial⟩ (by show ∀ s ∈ [25,26,27,28,29,30,31,32,24,33,34,9,10],s<36;decide) ?_ ?_
 ·intro j hj o T act U hb I J;have zX:j<13:=hj;have qW:Bw w U:=qY.trans (hb.mono qY.size);have qO:act.tmps[(2:Nat)]?=some (iV m):=(I 2 δ).trans rfl;have qI:act.tmps[(7:Nat)]?=some (Value.pointer (some ⟨V,0,none⟩)):=(I 7 δ).trans rfl;have qR:act.tmps[(8:Nat)]?=some (Value.pointer (some ⟨qB,0,none⟩)):=(I 8 δ).trans rfl;have d7:=(qK8 (qQ0 m1.1 hb (qQ7 m1.1))).1;have d8:=(qU1 (qQ0 n6 hb (qQ7 n6))).1;rcases(by omega:j=0∨j=1∨j=2∨j=3∨j=4∨j=5∨j=6∨j=7∨j=8∨j=9∨j=10∨j=11∨j=12)with rfl|rfl|rfl|rfl|rfl|rfl|rfl|rfl|rfl|rfl|rfl|rfl|rfl
  ·obtain rfl:=kF0 T;exact .inl ⟨rfl,qK6 (f:=0) rfl qI d7.1 d7.2.1 d7.2.2 ⟨_,rfl,rfl,kH9 _ _⟩⟩
  ·obtain rfl:=kF0 T;exact .inl ⟨rfl,qE9 rfl qR ⟨_,rfl,rfl,kH9 _ _⟩⟩
  ·obtain rfl:=kF0 T;have y1:act.tmps[(26:Nat)]?=_:=dV (J 1 (by simp[dL])) rfl
   exact .inl ⟨rfl,qK6 (f:=0) rfl y1 d8.1 d8.2.1 d8.2.2.1 ⟨_,rfl,rfl,kH9 _ _⟩⟩
  ·obtain rfl:=kF0 T;have y0:act.tmps[(25:Nat)]?=_:=dV (J 0 (by simp[dL])) rfl
   have y2:act.tmps[(27:Nat)]?=_:=dV (J 2 (by simp[dL])) rfl
   refine .inl ⟨rfl,qQ9 rfl (qZ4 Tryz.func94 (by kernel_rfl) (by kernel_rfl)) (map2 y0 y2) ?_⟩
   refine(k5.out U _ _ qW (m1.2.later hb) (p1.later hb)).mono ?_
   rintro r w' ⟨_,_,_,_,_,rfl,hA,qH⟩;exact⟨_,rfl,_,rfl,hA,qH⟩
  ·obtain rfl:=kF0 T;exact .inl ⟨rfl,qE8 rfl qR ⟨_,rfl,rfl,kH9 _ _⟩⟩
  ·obtain rfl:=kF0 T;have y4:act.tmps[(29:Nat)]?=_:=dV (J 4 (by simp[dL])) rfl
   exact .inl ⟨rfl,qK6 (f:=3) rfl y4 d8.2.2.2.1 d8.2.2.2.2.1 d8.2.2.2.2.2 ⟨_,rfl,rfl,kH9 _ _⟩⟩
  ·obtain rfl:=kF0 T;exact .inl ⟨rfl,qZ7 rfl qO ⟨_,rfl,rfl,kH9 _ _⟩⟩
  ·obtain rfl:=kF0 T;obtain⟨u3,y3,v3⟩:=J 3 (by simp[dL])
   have qE:act.tmps[(28:Nat)]?=_:=y3;have y5:act.tmps[(30:Nat)]?=_:=dV (J 5 (by simp[dL])) rfl
   have y6:act.tmps[(31:Nat)]?=_:=dV (J 6 (by simp[dL])) rfl
   refine .inl ⟨rfl,qQ9 rfl (qZ4 Tryz.func125 (by kernel_rfl) (by kernel_rfl)) (xG0 qE y5 y6) ?_⟩
   refine(k6.out U _ _ qW v3 (p2.later hb)).mono ?_
   rintro r w' ⟨rfl,qH⟩;exact⟨_,rfl,_,rfl,rfl,qH⟩
  ·obtain rfl:=kF0 T;have y7:act.tmps[(32:Nat)]?=_:=dV (J 7 (by simp[dL])) rfl
   exact .inl ⟨rfl,qZ7 rfl y7 ⟨_,rfl,rfl,kH9 _ _⟩⟩
  ·obtain rfl:=kF0 T;have y8:act.tmps[(24:Nat)]?=_:=dV (J 8 (by simp[dL])) rfl
   exact .inl ⟨rfl,qJ9 rfl y8 rfl ⟨_,rfl,rfl,kH9 _ _⟩⟩
  ·obtain rfl:=kF0 T;have y8:act.tmps[(24:Nat)]?=_:=dV (J 8 (by simp[dL])) rfl
   exact .inl ⟨rfl,qJ9 rfl y8 rfl ⟨_,rfl,rfl,kH9 _ _⟩⟩
  ·obtain rfl:=kF0 T;have y9:act.tmps[(33:Nat)]?=_:=dV (J 9 (by simp[dL])) rfl
   exact .inl ⟨rfl,qX5 rfl y9 ⟨_,rfl,rfl,kH9 _ _⟩⟩
  ·obtain rfl:=kF0 T;have qA:act.tmps[(34:Nat)]?=_:=dV (J 10 (by simp[dL])) rfl
   exact .inl ⟨rfl,qX5 rfl qA ⟨_,rfl,rfl,kH9 _ _⟩⟩
 ·intro u W6 qC hu;have qS:u 11=.float .f64 f:=hu 11 (by show 11<13;decide)
  have HB:Hid (Bw w W6):=qY.trans (qC.mono qY.size);clear hu qC k5 k6 m1 qY n6 p1 p2;simp only[putL,show List.range 13 = [0,1,2,3,4,5,6,7,8,9,10,11,12] from rfl,show List.range 13 = [0,1,2,3,4,5,6,7,8,9,10,11,12] from rfl,kG2,kG3,kG4,kG5,kH2,kH3,kH0,kG9,List.foldl_cons,List.foldl_nil,Nat.reduceLT,Nat.reduceMod,Nat.reduceDiv,Nat.reduceMul,Nat.reduceAdd,Nat.reduceEqDiff,reduceIte,kG8,Act.put,kU9,kG0,kG1];rw[qS];clear qS
  go_wp2
  go_ret;exact⟨rfl,HB.out⟩
end Go.Proofs.YtfkaogdmlcdceaaGreatDoor
