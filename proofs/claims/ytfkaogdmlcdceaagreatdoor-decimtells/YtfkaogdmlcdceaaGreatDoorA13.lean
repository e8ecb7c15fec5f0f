/- Own work: contracts of the program's functions, part 13: FRD FRE FRF FRG DC5 DC6 DC7 DC8 DC9 DCA DCB DCC DD0 DCD DCE. -/
import Derived.Test.YtfkaogdmlcdceaaGreatDoorA12
import Derived.Test.YtfkaogdmlcdceaaGreatDoorA3
import Derived.Test.YtfkaogdmlcdceaaGreatDoorA4
import Derived.Laws.IdiomStrings
import Derived.Test.YtfkaogdmlcdceaaGreatDoorA11
import Derived.Test.YtfkaogdmlcdceaaGreatDoorA10
import Derived.BigQuiet
import Derived.Lib.Bytealg

set_option maxHeartbeats 16000000
set_option maxRecDepth 200000
set_option linter.unusedVariables false
set_option linter.unusedSimpArgs false
namespace Go.Proofs.YtfkaogdmlcdceaaGreatDoor
open Go.RowKit Go.Fl64
attribute [local go_sem] iV Nu
theorem xJ8 {Z:Int} {b:Nat} (h:Z.natAbs<2^b) (L:b≤60000) {W:World} {X:Value} (C:PN W X (un Z 0)):Ca 123 #[X] W fun r w'=>OutP W (un (-Z) 0) r w':=by
 obtain⟨ao,cap,rfl,hI⟩:=C;have H:=qH2 (p:=0) h L ω;have f:=H.facts;refine(xU4 hI ω H).mono ?_
 rintro r w' ⟨v,rfl,I,hB⟩;have e:=xH6 (a:=Z) (p:=0);obtain⟨V,u,rfl,T,D,F⟩:=I.is;have J:Is w' (.slice V (dlen (un Z 0).2.1) u) (un Z 0).2.1:=⟨V,u,rfl,T,D,F⟩;refine⟨_,_,_,_,_,rfl,⟨V,u,?_,?_⟩,hB⟩
 ·rw[←e];unfold gN;by_cases Y:(un Z 0).2.1=0
  ·have:=f.2.2.2.1 Y
   rw[kU6 Y,this,show dlen (false,0,(0:Int)).2.1=0 from qQ5];rfl
  ·rw[kU5 Y];have:0<dlen (un Z 0).2.1:=by have:=qJ1 Y;omega
   rw[kF2 this,Bool.and_true]
 ·rw[←e];unfold gN;by_cases Y:(un Z 0).2.1=0
  ·rw[kU6 Y];rw[Y] at J;exact J
  ·rw[kU5 Y];exact J
def isD (T:Bool×Nat×Int):World→Value→Prop:=fun w u=>DN w u T
theorem qX9 (T:Bool×Nat×Int):zK4 (isD T):=fun _ _ _ u h=>DN.later h u
theorem xT6 (T:TypeId):∀ L:List (World→Value→Prop),zK5 T (fun _=>False) L
 | []=>trivial
 | _ :: r=>⟨fun _ _ _ _ _ _ h=>h.elim,xT6 T r⟩
theorem qJ2 {V:Array Oper} {Q:Exit→Act→World→Prop} {id:Nat} (Y H:List Nat) (D:List (List Nat))
  (T:World) (a0:Act) (L:List (World→Value→Prop)) (F:qchk V Y [] H D [] []=true)
  (I:qP2 L) (W:∀ s ∈ H,s<a0.tmps.size)
  (hA:∀ j,j<Y.length→∀ o,V[Y.getD j 0]?=some o→∀ (a:Act) (w:World),Bw T w→(∀ s:Nat,H.contains s=false→a.tmps[s]?=a0.tmps[s]?) →
   (∀ j' ∈ dL D j,∃ u,a.tmps[H.getD j' 0]?=some u∧vL L j' w u) →
   (o.guard=none∧o.wp Tryz.prog a w (fun a' w'=>∃ u,a'=a.put o.dst u∧vL L j w' u∧Bw w w') Q)∨wpOp Tryz.prog V Q (Y.getD j 0) (fun a' w'=>∃ u,a'=a.put o.dst u∧vL L j w' u∧Bw w w') a w)
  (hQ:∀ (u:Nat→Value) (w:World),Bw T w→(∀ j,j<Y.length→vL L j w (u j))→Q .normal (putL a0 ((List.range Y.length).map (fun j=>(H.getD j 0,u j)))) w) :
  (Code.region id V true).wp Tryz.prog Q a0 T :=
 qG4 qX2 Y [] H D [] [] (fun _=>0) (fun _=>0) T.heap.size 50 (fun _=>False) 3 T a0 L F I (xT6 _ L) W
  (fun k J=>absurd J (Nat.not_lt_zero _)) (fun j hj o ho a w J C hd _=>hA j hj o ho a w J.below C hd) Tryz.info50
  (fun k J=>absurd J (Nat.not_lt_zero _)) (fun k J=>absurd J (Nat.not_lt_zero _)) (fun k J=>absurd J (Nat.not_lt_zero _)) (fun k k' J=>absurd J (Nat.not_lt_zero _)) lR
  (fun u w J hu _=>hQ u w J.below hu)
theorem xY9 (g o:Nat) (s:Bool) (ao:Option Addr) (n Y:Nat) (e:Int) (w:World) (H:w.cell? ⟨g,o,none⟩=some (.bool s)) (V:w.cell? ⟨g,o+1,none⟩=some (.slice ao n Y)) (J:w.cell? ⟨g,o+2,none⟩=some (iV e)):(Instr.loadAt 54 (.pointer (some ⟨g,o,none⟩))).run Tryz.prog w=.ok (.agg (Nu s ao n Y e)) w :=
 run_loadAt_mid w g o 54 [.bool s,.slice ao n Y,iV e] _ (fun j v u=>by
  match j with
  | 0=>simp at u;subst u;exact H
  | 1=>simp at u;subst u;exact V
  | 2=>simp at u;subst u;exact J
  | k+3=>simp at u) Tryz.underlying54 rfl Tryz.info54
theorem xF8 {a:Nat} (u:a<18446744073709551616) (w:World):Ca 100 #[.float .f64 a] w fun r w'=>∃ A,r=.returned A∧DN w' A (un (sU a) 1074)∧Bw w w':=by
 have h:=yR4 a u w;rw[tF_sU] at h;exact h
theorem qA4 {n:Int} (u:0≤n∧n≤9223372036854775807) (w:World):Ca 46 #[iV n] w fun r w'=>∃ A,r=.returned A∧DN w' A (un n 0)∧Bw w w':=by
 have h:=xI4 (n:=n) (w:=w) ω;rw[yN5] at h;exact h
theorem yV7 {x y:Int} {k l:Nat} {X Y:Value} {w:World} (hx:x.natAbs<2^k) (u:y.natAbs<2^l) (V:k≤90000) (J:l≤90000) (F:DN w X (un x 1074)) (H:DN w Y (un y 0)):Ca 39 #[X,Y] w fun r w'=>∃ A,r=.returned A∧DN w' A (un (x*y) 1074)∧Bw w w':=by
 have h:=yJ2 (qG3 hx V ω) (qG3 u J ω) F H;rw[yR0] at h;exact h
theorem zY4 {x y:Int} {k l p:Nat} {X Y:Value} {w:World} (hx:x.natAbs<2^k) (J:y.natAbs<2^l) (H:k≤90000) (V:l≤90000) (u:p≤90000) (D:DN w X (un x p)) (F:DN w Y (un y p)):Ca 49 #[X,Y] w (Rq w (iV (cmpI x y))):=by
 have h:=xI7 (qG3 hx H u) (qG3 J V u) D F;rw[yI2] at h;exact h
theorem dV {a:Act} {s:Tmp} {L:List (World→Value→Prop)} {j:Nat} {w:World} {x:Value} (h:∃ u,a.tmps[s]?=some u∧vL L j w u) (e:vL L j=isV x):a.tmps[s]?=some x:=by
 obtain⟨u,J,Y⟩:=h;rw[e] at Y;obtain rfl:u=x:=Y;exact J
theorem xV4 {Q:Exit→Act→World→Prop} {o:Oper} {K:Act→World→Prop} {a:Act} {w:World} {s:Tmp} {g f x:Nat} (u:o.op=.load 22 (.tmp s)) (Y:a.tmps[s]?=some (.pointer (some ⟨g,f,none⟩))) (J:w.cell? ⟨g,f,none⟩=some (.float .f64 x)) (h:K (a.put o.dst (.float .f64 x)) w):o.wp Tryz.prog a w K Q :=
 qZ6 (w':=w) (by simp[execOp,u,qZ1 Y,yZ2 _ _ _ w J]) h
theorem qJ0 {Q:Exit→Act→World→Prop} {o:Oper} {K:Act→World→Prop} {a:Act} {w:World} {s:Tmp} {g:Nat} {u:Bool} {ao:Option Addr} {n J:Nat} {e:Int} (Y:o.op=.load 54 (.tmp s)) (V:a.tmps[s]?=some (.pointer (some ⟨g,0,none⟩))) (D:w.cell? ⟨g,0,none⟩=some (.bool u)) (F:w.cell? ⟨g,1,none⟩=some (.slice ao n J)) (H:w.cell? ⟨g,2,none⟩=some (iV e)) (h:K (a.put o.dst (.agg (Nu u ao n J e))) w):o.wp Tryz.prog a w K Q :=
 qZ6 (w':=w) (by simp[execOp,Y,qZ1 V,xY9 g 0 u ao n J e w D F H]) h
theorem map2 {a:Act} {s t:Tmp} {v u:Value} (h:a.tmps[s]?=some v) (Y:a.tmps[t]?=some u) : #[Operand.tmp s,Operand.tmp t].map a.eval = #[v,u]:=by simp[qZ1 h,qZ1 Y]
theorem qE9 {Q:Exit→Act→World→Prop} {o:Oper} {K:Act→World→Prop} {a:Act} {w:World} {s:Tmp} {g:Nat} (u:o.op=.fieldAddr 104 (.tmp s) 0) (Y:a.tmps[s]?=some (.pointer (some ⟨g,0,none⟩))) (h:K (a.put o.dst (.pointer (some ⟨g,0,none⟩))) w):o.wp Tryz.prog a w K Q :=
 qZ6 (w':=w) (by simp[execOp,u,Act.eval,Y,go_sem]) h
theorem qE8 {Q:Exit→Act→World→Prop} {o:Oper} {K:Act→World→Prop} {a:Act} {w:World} {s:Tmp} {g:Nat} (u:o.op=.fieldAddr 104 (.tmp s) 1) (Y:a.tmps[s]?=some (.pointer (some ⟨g,0,none⟩))) (h:K (a.put o.dst (.pointer (some ⟨g,3,none⟩))) w):o.wp Tryz.prog a w K Q :=
 qZ6 (w':=w) (by simp[execOp,u,Act.eval,Y,go_sem]) h
theorem qK6 {Q:Exit→Act→World→Prop} {o:Oper} {K:Act→World→Prop} {a:Act} {w:World} {s:Tmp} {g f:Nat} {V:Bool} {Y:Option Addr} {H u:Nat} {ex:Int} (J:o.op=.load 50 (.tmp s)) (F:a.tmps[s]?=some (.pointer (some ⟨g,f,none⟩))) (L:w.cell? ⟨g,f,none⟩=some (.bool V)) (T:w.cell? ⟨g,f+1,none⟩=some (.slice Y H u)) (D:w.cell? ⟨g,f+2,none⟩=some (iV ex)) (h:K (a.put o.dst (.agg (Nu V Y H u ex))) w):o.wp Tryz.prog a w K Q :=
 qZ6 (w':=w) (by simp[execOp,J,qZ1 F,xY8 _ f _ _ _ _ _ w L T D]) h
theorem qJ9 {P:Program} {Q:Exit→Act→World→Prop} {o:Oper} {K:Act→World→Prop} {a:Act} {w:World} {s:Tmp} {i:Nat} {vs:Array Value} {v:Value} (u:o.op=.extract (.tmp s) i) (J:a.tmps[s]?=some (.tuple vs)) (Y:vs[i]?=some v) (h:K (a.put o.dst v) w):o.wp P a w K Q :=
 qZ6 (w':=w) (by simp[execOp,u,qZ1 J,Y,Instr.extract]) h
theorem map3k {a:Act} {s t:Tmp} {v u c:Value} (h:a.tmps[s]?=some v) (Y:a.tmps[t]?=some u) : #[Operand.tmp s,Operand.tmp t,Operand.const c].map a.eval = #[v,u,c]:=by simp[Act.eval,h,Y]
def isT3 (t:Bool×Nat×Int) (b:Bool):World→Value→Prop:=fun w u=>∃ A,u=.tuple #[A,.bool b,.int .i64 0]∧PN w A t
theorem zQ1 (t:Bool×Nat×Int) (b:Bool):zK4 (isT3 t b):=fun _ _ _ u ⟨A,J,Y⟩=>⟨A,J,Y.later u⟩
theorem zV5 (t:Bool×Nat×Int) (b:Bool):∀ w u g Y,Hn w g false none 0 0 0 50→isT3 t b w u→isT3 t b (w.setRow g Y) u:=fun w u g Y J ⟨A,H,V⟩=>⟨A,H,PN.row3 V J ⟨_,_,_,_,_,rfl⟩ Y⟩
theorem qJ5 (t:Bool×Nat×Int):∀ w u g Y,Hn w g false none 0 0 0 50→isP t w u→isP t (w.setRow g Y) u:=fun w u g Y J V=>PN.row3 V J ⟨_,_,_,_,_,rfl⟩ Y
theorem zK8 (w:World):(zeroValue 50).run Tryz.prog w=.ok (.agg (Nu false none 0 0 0)) w:=Tryz.zeroValue50 w
def zG9 (W:World) (t:Bool×Nat×Int) (b:Bool) (r:Ending) (w':World):Prop:=∃ (s1:Bool) (ao1:Option Addr) (n1 cp1:Nat) (e1:Int),r=.returned (.tuple #[.agg #[.bool s1,.slice ao1 n1 cp1,.int .i64 e1],.bool b])∧PN w' (.agg #[.bool s1,.slice ao1 n1 cp1,.int .i64 e1]) t∧Bw W w'
theorem yC4 (s1:Bool) (L:Option Addr) (n1 D:Nat) (e1:Int) (s2:Bool) (T:Option Addr) (n2 F:Nat) (e2:Int) (s3:Bool) (qQ:Option Addr) (n3 I:Nat) (e3:Int) (t1 t2 t3 tm tq:Bool×Nat×Int) (bx:Bool) (w:World) (h1:PN w (.agg (Nu s1 L n1 D e1)) t1) (h2:PN w (.agg (Nu s2 T n2 F e2)) t2) (h3:PN w (.agg (Nu s3 qQ n3 I e3)) t3)
  (k1:∀ W X Y,Bw w W→PN W X t3→PN W Y t1→Ca 94 #[X,Y] W fun r w'=>OutA W tm r w')
  (k2:∀ W X Y,Bw w W→PN W X tm→PN W Y t2→Ca 90 #[X,Y,iV 0] W fun r w'=>∃ A,r=.returned (.tuple #[A,.bool bx,iV 0])∧PN w' A tq∧Bw W w') :
  Ca 96 #[.agg #[.bool s1,.slice L n1 D,iV e1,.bool s2,.slice T n2 F,iV e2],.agg (Nu s3 qQ n3 I e3)] w fun r w'=>zG9 w tq bx r w':=by
 obtain⟨W,hW⟩:=eE (((w.alloc (.cells #[.bool s1,.slice L n1 D,iV e1,.bool s2,.slice T n2 F,iV e2] 104)).alloc (.cells (Nu s3 qQ n3 I e3) 50)).alloc (.cells (Nu false none 0 0 0) 50));obtain⟨m1,m2,m3,V⟩:=qF4 _ _ _ hW;have H0:Hid (Hx W w.heap.size #[.bool s1,.slice L n1 D,iV e1,.bool s2,.slice T n2 F,iV e2] 104∧PBx W (w.heap.size+1) s3 qQ n3 I e3 t3∧Hn W (w.heap.size+1+1) false none 0 0 0 50∧Bw w W∧PN W (.agg (Nu s1 L n1 D e1)) t1∧PN W (.agg (Nu s2 T n2 F e2)) t2):=⟨m1,⟨m2,h3.later V⟩,m3,V,h1.later V,h2.later V⟩;clear m1 m2 m3 V h1 h2 h3
 go_enter Tryz.func96,Tryz.ntmps96
 go_upto_region 1 with fail;rw[←hW];clear hW;obtain⟨m1,m2,m3,V,p1,p2⟩:=H0.out;refine qM2 qX2 [0,1,2,3,4,5,6,7,8,9,10,13,14] [11] [12] [10,11,12,13,14,15,16,9,17,18,19,7,8] [6] [[],[],[1],[0,2],[],[4],[3,5],[6],[7],[7],[7],[9],[10]] [8] 50 (Nu false none 0 0 0) W _ [isV (.agg (Nu s3 qQ n3 I e3)),isV (.pointer (some ⟨w.heap.size,0,none⟩)),isV (.agg (Nu s1 L n1 D e1)),isP tm,isV (.pointer (some ⟨w.heap.size,3,none⟩)),isV (.agg (Nu s2 T n2 F e2)),isT3 tq bx,isT3 tq bx,isP tq,isV (.bool bx),isV (iV 0),isV (.bool bx),isV (iV 0)] (by kernel_rfl) ⟨qQ2 _,qQ2 _,qQ2 _,qX4 _,qQ2 _,qQ2 _,zQ1 _ _,zQ1 _ _,qX4 _,qQ2 _,qQ2 _,qQ2 _,qQ2 _,trivial⟩ ⟨fun _ _ _ _ _ h=>h,fun _ _ _ _ _ h=>h,fun _ _ _ _ _ h=>h,qJ5 _,fun _ _ _ _ _ h=>h,fun _ _ _ _ _ h=>h,zV5 _ _,zV5 _ _,qJ5 _,fun _ _ _ _ _ h=>h,fun _ _ _ _ _ h=>h,fun _ _ _ _ _ h=>h,fun _ _ _ _ _ h=>h,trivial⟩ (by show ∀ s ∈ [10,11,12,13,14,15,16,9,17,18,19,7,8] ++ [6],s<22;decide) ?_ ?_ ?_ zK8 Tryz.info50 ?_ ?_
 ·intro k' hk U u h;obtain rfl:k'=0:=Nat.lt_one_iff.1 hk;obtain⟨ao,cap,rfl,-⟩:=(show PN U u tq from h);exact⟨_,rfl,rfl,one3 rfl rfl⟩
 ·intro j hj o H act U hb qZ J;have qR:j<13:=hj;have qG:Bw w U:=V.trans (hb.mono V.size);have qV:act.tmps[(2:Nat)]?=some (Value.pointer (some ⟨w.heap.size,0,none⟩)):=(qZ 2 δ).trans rfl;have qM:act.tmps[(3:Nat)]?=some (Value.pointer (some ⟨w.heap.size+1,0,none⟩)):=(qZ 3 δ).trans rfl;have d2:=(qU1 (qQ0 m1 hb (qQ7 m1))).1;have d3:=(qK8 (qQ0 m2.1 hb (qQ7 m2.1))).1;rcases(by omega:j=0∨j=1∨j=2∨j=3∨j=4∨j=5∨j=6∨j=7∨j=8∨j=9∨j=10∨j=11∨j=12)with rfl|rfl|rfl|rfl|rfl|rfl|rfl|rfl|rfl|rfl|rfl|rfl|rfl
  ·obtain rfl:=kF0 H;exact .inl ⟨rfl,qK6 (f:=0) rfl qM d3.1 d3.2.1 d3.2.2 ⟨_,rfl,rfl,kH9 _ _⟩⟩
  ·obtain rfl:=kF0 H;exact .inl ⟨rfl,qE9 rfl qV ⟨_,rfl,rfl,kH9 _ _⟩⟩
  ·obtain rfl:=kF0 H;have y:act.tmps[(11:Nat)]?=_:=dV (J 1 (by simp[dL])) rfl
   exact .inl ⟨rfl,qK6 (f:=0) rfl y d2.1 d2.2.1 d2.2.2.1 ⟨_,rfl,rfl,kH9 _ _⟩⟩
  ·obtain rfl:=kF0 H;have y0:act.tmps[(10:Nat)]?=_:=dV (J 0 (by simp[dL])) rfl
   have y2:act.tmps[(12:Nat)]?=_:=dV (J 2 (by simp[dL])) rfl
   refine .inl ⟨rfl,qQ9 rfl (qZ4 Tryz.func94 (by kernel_rfl) (by kernel_rfl)) (map2 y0 y2) ?_⟩
   refine(k1 U _ _ qG (m2.2.later hb) (p1.later hb)).mono ?_
   rintro r w' ⟨_,_,_,_,_,rfl,hA,qK⟩;exact⟨_,rfl,_,rfl,hA,qK⟩
  ·obtain rfl:=kF0 H;exact .inl ⟨rfl,qE8 rfl qV ⟨_,rfl,rfl,kH9 _ _⟩⟩
  ·obtain rfl:=kF0 H;have y:act.tmps[(14:Nat)]?=_:=dV (J 4 (by simp[dL])) rfl
   exact .inl ⟨rfl,qK6 (f:=3) rfl y d2.2.2.2.1 d2.2.2.2.2.1 d2.2.2.2.2.2 ⟨_,rfl,rfl,kH9 _ _⟩⟩
  ·obtain rfl:=kF0 H;obtain⟨u3,y3,v3⟩:=J 3 (by simp[dL])
   have qN:act.tmps[(13:Nat)]?=_:=y3;have y5:act.tmps[(15:Nat)]?=_:=dV (J 5 (by simp[dL])) rfl
   refine .inl ⟨rfl,qQ9 rfl (qZ4 Tryz.func90 (by kernel_rfl) (by kernel_rfl)) (map3k qN y5) ?_⟩
   refine(k2 U _ _ qG v3 (p2.later hb)).mono ?_
   rintro r w' ⟨A,rfl,hA,qK⟩;exact⟨_,rfl,_,rfl,⟨A,rfl,hA⟩,qK⟩
  ·obtain rfl:=kF0 H;obtain⟨u6,y6,v6⟩:=J 6 (by simp[dL])
   have qB:act.tmps[(16:Nat)]?=_:=y6;exact .inl ⟨rfl,qZ7 rfl qB ⟨_,rfl,v6,kH9 _ _⟩⟩
  ·obtain rfl:=kF0 H;obtain⟨u7,y7,A,rfl,vA⟩:=J 7 (by simp[dL])
   have C:act.tmps[(9:Nat)]?=_:=y7;exact .inl ⟨rfl,qJ9 rfl C rfl ⟨_,rfl,vA,kH9 _ _⟩⟩
  ·obtain rfl:=kF0 H;obtain⟨u7,y7,A,rfl,vA⟩:=J 7 (by simp[dL])
   have C:act.tmps[(9:Nat)]?=_:=y7;exact .inl ⟨rfl,qJ9 rfl C rfl ⟨_,rfl,rfl,kH9 _ _⟩⟩
  ·obtain rfl:=kF0 H;obtain⟨u7,y7,A,rfl,vA⟩:=J 7 (by simp[dL])
   have C:act.tmps[(9:Nat)]?=_:=y7;exact .inl ⟨rfl,qJ9 rfl C rfl ⟨_,rfl,rfl,kH9 _ _⟩⟩
  ·obtain rfl:=kF0 H;have y:act.tmps[(18:Nat)]?=_:=dV (J 9 (by simp[dL])) rfl
   exact .inl ⟨rfl,qX5 rfl y ⟨_,rfl,rfl,kH9 _ _⟩⟩
  ·obtain rfl:=kF0 H;have y:act.tmps[(19:Nat)]?=_:=dV (J 10 (by simp[dL])) rfl
   exact .inl ⟨rfl,qX5 rfl y ⟨_,rfl,rfl,kH9 _ _⟩⟩
 ·intro k' hk;obtain rfl:k'=0:=Nat.lt_one_iff.1 hk;exact⟨_,rfl,rfl⟩
 ·intro k' hk;obtain rfl:k'=0:=Nat.lt_one_iff.1 hk;exact⟨_,rfl,rfl⟩
 ·intro u g W3 qX hu hg qP;obtain⟨g0,qS,q0,z0⟩:=hg 0 δ;have q8:PN W3 (u 8) tq:=hu 8 δ;have qJ:u 11=.bool bx:=hu 11 δ;have qU:u 8=.agg qS:=q0;rw[qU] at q8;obtain⟨s5,qF,n5,qH,e5,h5⟩:=q8.shape1;obtain rfl:=Value.agg.inj h5;obtain⟨qD,qY⟩:=eE (g 0);rw[←qY] at z0 g0;have H3:Hid (PBx W3 qD s5 qF n5 qH e5 tq∧Hn W3 (w.heap.size+1+1) false none 0 0 0 50∧Bw w W3):=⟨⟨z0,q8⟩,qQ0 m3 qX (qQ7 m3),V.trans (qX.mono V.size)⟩;clear hu hg qP qX m1 m2 m3 V p1 p2 H0 q0 qU z0 g0 q8 h5 k1 k2;simp only[putL,show List.range 13 = [0,1,2,3,4,5,6,7,8,9,10,11,12] from rfl,show List.range 1 = [0] from rfl,kG2,kG3,kG4,kG5,kH2,kH3,kH0,kG9,List.foldl_cons,List.foldl_nil,Nat.reduceLT,Nat.reduceMod,Nat.reduceDiv,Nat.reduceMul,Nat.reduceAdd,Nat.reduceEqDiff,reduceIte,kG8,Act.put,kU9,kG0,kG1];rw[←qY,qJ];clear qY qJ;obtain⟨⟨c0,c1,c2⟩,-⟩:=qQ3 H3.out.1.1;obtain⟨⟨x1,x2,x3⟩,x4,x5,x6⟩:=qQ3 H3.out.2.1
  go_wp2;refine kB8 (qQ6 rfl _ _ (w.heap.size+1+1) 50 (Nu s5 qF n5 qH e5) (0,0) _ rfl (qX8 _ _ _ H3.out.2.1) Tryz.underlying50 rfl Tryz.info50) rfl ?_;exact⟨_,_,_,_,_,rfl,qB4 H3.out.1.2 H3.out.2.1 _ _ _,qQ4 H3.out.2.2 ω _ _ _⟩
theorem yY7 {a:Act} {s:Tmp} {v c:Value} (h:a.tmps[s]?=some v) : #[Operand.tmp s,Operand.const c].map a.eval = #[v,c]:=by simp[Act.eval,h]
theorem yC7 (s1:Bool) (D:Option Addr) (n1 H:Nat) (e1:Int) (s2:Bool) (F:Option Addr) (n2 V:Nat) (e2:Int) (s3:Bool) (qJ:Option Addr) (n3 qK:Nat) (e3:Int) (s4:Bool) (I:Option Addr) (n4 C:Nat) (e4:Int) (t1 t2 ta qT tl qB tw tb tx ty:Bool×Nat×Int) (c sg:Int) (qN:Bool) (w:World) (h1:PN w (.agg (Nu s1 D n1 H e1)) t1) (h2:PN w (.agg (Nu s2 F n2 V e2)) t2) (h3:PN w (.agg (Nu s3 qJ n3 qK e3)) ta) (h4:PN w (.agg (Nu s4 I n4 C e4)) tl)
  (k1:Hid (∀ W X,Bw w W→PN W X tl→Ca 140 #[X,iV 1] W fun r w'=>OutA W qB r w')) (k2:Hid (∀ W X,Bw w W→PN W X ta→Ca 140 #[X,iV 1] W fun r w'=>OutA W qT r w'))
  (k3:Hid (∀ W,Bw w W→Ca 99 #[iV 1] W fun r w'=>OutP W tw r w'))
  (k4:Hid (∀ W X Y,Bw w W→PN W X qB→PN W Y tw→Ca 98 #[X,Y] W fun r w'=>OutA W tb r w')) (k5:Hid (∀ W X Y,Bw w W→PN W X qT→PN W Y t1→Ca 94 #[X,Y] W fun r w'=>OutA W tx r w')) (k6:Hid (∀ W X Y,Bw w W→PN W X tb→PN W Y t2→Ca 94 #[X,Y] W fun r w'=>OutA W ty r w'))
  (k7:Hid (∀ W X Y,Bw w W→PN W X tx→PN W Y ty→Ca 166 #[X,Y] W (Rq W (iV c))))
  (k8:Hid (∀ W,Bw w W→PN W (.agg (Nu s4 I n4 C e4)) tl→Ca 89 #[.agg (Nu s4 I n4 C e4)] W (Rq W (iV sg))))
  (qR:Hid ((c=1∧qN=true)∨(c=0∧qN=(decide (e4=0)&&decide (sg≠0)))∨(c = -1∧qN=false))) :
  Ca 97 #[.agg #[.bool s1,.slice D n1 H,iV e1,.bool s2,.slice F n2 V,iV e2],.agg (Nu s3 qJ n3 qK e3),.agg (Nu s4 I n4 C e4)] w (Rq w (.bool qN)):=by
 obtain⟨W,hW⟩:=eE (((w.alloc (.cells #[.bool s1,.slice D n1 H,iV e1,.bool s2,.slice F n2 V,iV e2] 104)).alloc (.cells (Nu s3 qJ n3 qK e3) 50)).alloc (.cells (Nu s4 I n4 C e4) 50));obtain⟨m1,m2,m3,L⟩:=qF4 _ _ _ hW;have H0:Hid (Hx W w.heap.size #[.bool s1,.slice D n1 H,iV e1,.bool s2,.slice F n2 V,iV e2] 104∧PBx W (w.heap.size+1) s3 qJ n3 qK e3 ta∧PBx W (w.heap.size+1+1) s4 I n4 C e4 tl∧Bw w W∧PN W (.agg (Nu s1 D n1 H e1)) t1∧PN W (.agg (Nu s2 F n2 V e2)) t2):=⟨m1,⟨m2,h3.later L⟩,⟨m3,h4.later L⟩,L,h1.later L,h2.later L⟩;clear m1 m2 m3 L h1 h2 h3 h4;obtain⟨⟨c0,c1,c2⟩,-⟩:=qQ3 H0.out.2.2.1.1;have kk:=k1.out W _ H0.out.2.2.2.1 H0.out.2.2.1.2
 go_enter Tryz.func97,Tryz.ntmps97
 go_upto_region 1 with fail;rw[←hW];clear hW
 go_wp2_with fail;refine kk.mono ?_;rintro r w1 ⟨s5,qO,n5,qI,e5,rfl,hA,qU⟩;clear kk c0 c1 c2;have H1:Hid ((Hx w1 w.heap.size #[.bool s1,.slice D n1 H,iV e1,.bool s2,.slice F n2 V,iV e2] 104∧PBx w1 (w.heap.size+1) s3 qJ n3 qK e3 ta∧PBx w1 (w.heap.size+1+1) s4 I n4 C e4 tl∧Bw w w1∧PN w1 (.agg (Nu s1 D n1 H e1)) t1∧PN w1 (.agg (Nu s2 F n2 V e2)) t2)∧PN w1 (.agg (Nu s5 qO n5 qI e5)) qB):=⟨⟨qQ0 H0.out.1 qU (qQ7 H0.out.1),H0.out.2.1.later qU,H0.out.2.2.1.later qU,H0.out.2.2.2.1.trans (qU.mono H0.out.2.2.2.1.size),H0.out.2.2.2.2.1.later qU,H0.out.2.2.2.2.2.later qU⟩,hA⟩;clear H0 hA qU;have kk:=k3.out w1 H1.out.1.2.2.2.1
 go_wp2_with fail;refine kk.mono ?_;rintro r w2 ⟨s6,zV,n6,zJ,e6,rfl,hA,qX⟩;clear kk;have qY:Hid _:=H1.out.1;have H2:Hid ((Hx w2 w.heap.size #[.bool s1,.slice D n1 H,iV e1,.bool s2,.slice F n2 V,iV e2] 104∧PBx w2 (w.heap.size+1) s3 qJ n3 qK e3 ta∧PBx w2 (w.heap.size+1+1) s4 I n4 C e4 tl∧Bw w w2∧PN w2 (.agg (Nu s1 D n1 H e1)) t1∧PN w2 (.agg (Nu s2 F n2 V e2)) t2)∧PN w2 (.agg (Nu s5 qO n5 qI e5)) qB∧PN w2 (.agg (Nu s6 zV n6 zJ e6)) tw):=⟨⟨qQ0 qY.out.1 qX (qQ7 qY.out.1),qY.out.2.1.later qX,qY.out.2.2.1.later qX,qY.out.2.2.2.1.trans (qX.mono qY.out.2.2.2.1.size),qY.out.2.2.2.2.1.later qX,qY.out.2.2.2.2.2.later qX⟩,H1.out.2.later qX,hA⟩;clear H1 qY hA qX;have kk:=k4.out w2 _ _ H2.out.1.2.2.2.1 H2.out.2.1 H2.out.2.2
 go_wp2_with fail;refine kk.mono ?_;rintro r w3 ⟨s7,qS,n7,qD,e7,rfl,hA,qW⟩;clear kk;obtain⟨W3,qP⟩:=eE (w3.alloc (.cells (Nu s7 qS n7 qD e7) 50));have qL:Bw w3 W3:=by rw[qP];exact bR.alloc lR _
 have n6:Hn W3 w3.heap.size s7 qS n7 qD e7 50:=by rw[qP];exact kB7 _ _
 have T:Bw w2 W3:=qW.trans (qL.mono qW.size);have qZ:Hid _:=H2.out.1
 go_upto_region 2 with fail;rw[←qP];clear qP;have qE:=hA.later qL;clear qL hA;generalize w3.heap.size=qA at *;have H3:Hid ((Hx W3 w.heap.size #[.bool s1,.slice D n1 H,iV e1,.bool s2,.slice F n2 V,iV e2] 104∧PBx W3 (w.heap.size+1) s3 qJ n3 qK e3 ta∧PBx W3 (w.heap.size+1+1) s4 I n4 C e4 tl∧Bw w W3∧PN W3 (.agg (Nu s1 D n1 H e1)) t1∧PN W3 (.agg (Nu s2 F n2 V e2)) t2)∧PBx W3 qA s7 qS n7 qD e7 tb):=⟨⟨qQ0 qZ.out.1 T (qQ7 qZ.out.1),qZ.out.2.1.later T,qZ.out.2.2.1.later T,qZ.out.2.2.2.1.trans (T.mono qZ.out.2.2.2.1.size),qZ.out.2.2.2.2.1.later T,qZ.out.2.2.2.2.2.later T⟩,⟨n6,qE⟩⟩;clear H2 qZ n6 qE qW T;obtain⟨⟨m1,m2,m3,L,p1,p2⟩,m4⟩:=H3.out;refine qJ2 [0,1,2,3,4,5,6,7,8,9] [12,13,14,15,16,17,18,19,20,21] [[],[0],[],[2],[1,3],[],[],[6],[5,7],[4,8]] W3 _ [isV (.agg (Nu s3 qJ n3 qK e3)),isP qT,isV (.pointer (some ⟨w.heap.size,0,none⟩)),isV (.agg (Nu s1 D n1 H e1)),isP tx,isV (.agg (Nu s7 qS n7 qD e7)),isV (.pointer (some ⟨w.heap.size,3,none⟩)),isV (.agg (Nu s2 F n2 V e2)),isP ty,isV (iV c)] (by kernel_rfl) ⟨qQ2 _,qX4 _,qQ2 _,qQ2 _,qX4 _,qQ2 _,qQ2 _,qQ2 _,qX4 _,qQ2 _,trivial⟩ (by show ∀ s ∈ [12,13,14,15,16,17,18,19,20,21],s<34;decide) ?_ ?_
 ·intro j hj o ho act U hb qH J;have zU:j<10:=hj;have qM:Bw w U:=L.trans (hb.mono L.size);have qC:act.tmps[(3:Nat)]?=some (Value.pointer (some ⟨w.heap.size,0,none⟩)):=(qH 3 δ).trans rfl;have zK:act.tmps[(4:Nat)]?=some (Value.pointer (some ⟨w.heap.size+1,0,none⟩)):=(qH 4 δ).trans rfl;have zX:act.tmps[(7:Nat)]?=some (Value.pointer (some ⟨qA,0,none⟩)):=(qH 7 δ).trans rfl;have d3:=(qU1 (qQ0 m1 hb (qQ7 m1))).1;have d4:=(qK8 (qQ0 m2.1 hb (qQ7 m2.1))).1;have d7:=(qK8 (qQ0 m4.1 hb (qQ7 m4.1))).1;rcases(by omega:j=0∨j=1∨j=2∨j=3∨j=4∨j=5∨j=6∨j=7∨j=8∨j=9)with rfl|rfl|rfl|rfl|rfl|rfl|rfl|rfl|rfl|rfl
  ·obtain rfl:=kF0 ho;exact .inl ⟨rfl,qK6 (f:=0) rfl zK d4.1 d4.2.1 d4.2.2 ⟨_,rfl,rfl,kH9 _ _⟩⟩
  ·obtain rfl:=kF0 ho;have y0:act.tmps[(12:Nat)]?=_:=dV (J 0 (by simp[dL])) rfl
   refine .inl ⟨rfl,qQ9 rfl (qZ4 Tryz.func140 (by kernel_rfl) (by kernel_rfl)) (yY7 y0) ?_⟩
   refine(k2.out U _ qM (m2.2.later hb)).mono ?_
   rintro r w' ⟨_,_,_,_,_,rfl,hA,qG⟩;exact⟨_,rfl,_,rfl,hA,qG⟩
  ·obtain rfl:=kF0 ho;exact .inl ⟨rfl,qE9 rfl qC ⟨_,rfl,rfl,kH9 _ _⟩⟩
  ·obtain rfl:=kF0 ho;have y:act.tmps[(14:Nat)]?=_:=dV (J 2 (by simp[dL])) rfl
   exact .inl ⟨rfl,qK6 (f:=0) rfl y d3.1 d3.2.1 d3.2.2.1 ⟨_,rfl,rfl,kH9 _ _⟩⟩
  ·obtain rfl:=kF0 ho;obtain⟨u1,y1,v1⟩:=J 1 (by simp[dL])
   have zY:act.tmps[(13:Nat)]?=_:=y1;have y3:act.tmps[(15:Nat)]?=_:=dV (J 3 (by simp[dL])) rfl
   refine .inl ⟨rfl,qQ9 rfl (qZ4 Tryz.func94 (by kernel_rfl) (by kernel_rfl)) (map2 zY y3) ?_⟩
   refine(k5.out U _ _ qM v1 (p1.later hb)).mono ?_
   rintro r w' ⟨_,_,_,_,_,rfl,hA,qG⟩;exact⟨_,rfl,_,rfl,hA,qG⟩
  ·obtain rfl:=kF0 ho;exact .inl ⟨rfl,qK6 (f:=0) rfl zX d7.1 d7.2.1 d7.2.2 ⟨_,rfl,rfl,kH9 _ _⟩⟩
  ·obtain rfl:=kF0 ho;exact .inl ⟨rfl,qE8 rfl qC ⟨_,rfl,rfl,kH9 _ _⟩⟩
  ·obtain rfl:=kF0 ho;have y:act.tmps[(18:Nat)]?=_:=dV (J 6 (by simp[dL])) rfl
   exact .inl ⟨rfl,qK6 (f:=3) rfl y d3.2.2.2.1 d3.2.2.2.2.1 d3.2.2.2.2.2 ⟨_,rfl,rfl,kH9 _ _⟩⟩
  ·obtain rfl:=kF0 ho;have y5:act.tmps[(17:Nat)]?=_:=dV (J 5 (by simp[dL])) rfl
   have y7:act.tmps[(19:Nat)]?=_:=dV (J 7 (by simp[dL])) rfl
   refine .inl ⟨rfl,qQ9 rfl (qZ4 Tryz.func94 (by kernel_rfl) (by kernel_rfl)) (map2 y5 y7) ?_⟩
   refine(k6.out U _ _ qM (m4.2.later hb) (p2.later hb)).mono ?_
   rintro r w' ⟨_,_,_,_,_,rfl,hA,qG⟩;exact⟨_,rfl,_,rfl,hA,qG⟩
  ·obtain rfl:=kF0 ho;obtain⟨u4,y4,v4⟩:=J 4 (by simp[dL])
   have zZ:act.tmps[(16:Nat)]?=_:=y4;obtain⟨u8,y8,v8⟩:=J 8 (by simp[dL])
   have zQ:act.tmps[(20:Nat)]?=_:=y8;refine .inl ⟨rfl,qQ9 rfl (qZ4 Tryz.func166 (by kernel_rfl) (by kernel_rfl)) (map2 zZ zQ) ?_⟩
   refine(k7.out U _ _ qM v4 v8).mono ?_
   rintro r w' ⟨rfl,qG⟩;exact⟨_,rfl,_,rfl,rfl,qG⟩
 ·intro u W5 qV hu;have u9:u 9=iV c:=hu 9 (by show 9<10;decide)
  have qQ:Hid _:=H3.out.1;have H5:Hid _:=aI6 (qQ0 qQ.out.1 qV (qQ7 qQ.out.1)) (qQ.out.2.1.later qV) (qQ.out.2.2.1.later qV) (qQ.out.2.2.2.1.trans (qV.mono qQ.out.2.2.2.1.size)) (qQ.out.2.2.2.2.1.later qV) (qQ.out.2.2.2.2.2.later qV);clear hu qV m1 m2 m3 m4 L p1 p2 H3 qQ k1 k2 k3 k4 k5 k6 k7;simp only[putL,show List.range 10 = [0,1,2,3,4,5,6,7,8,9] from rfl,show List.range 10 = [0,1,2,3,4,5,6,7,8,9] from rfl,kG2,kG3,kG4,kG5,kH2,kH3,kH0,kG9,List.foldl_cons,List.foldl_nil,Nat.reduceLT,Nat.reduceMod,Nat.reduceDiv,Nat.reduceMul,Nat.reduceAdd,Nat.reduceEqDiff,reduceIte,kG8,Act.put,kU9,kG0,kG1];rw[u9];clear u9;rcases qR.out with ⟨rfl,rfl⟩|⟨rfl,hr⟩|⟨rfl,rfl⟩
  ·go_wp2
   go_ret;exact⟨rfl,H5.out.2.2.2.1⟩
  ·obtain⟨⟨c0,c1,c2⟩,-⟩:=qQ3 H5.out.2.2.1.1;have HR:Hid _:=hr;clear hr qR;cases he:(e4==0)
   ·go_wp2
    go_ret;refine⟨?_,H5.out.2.2.2.1⟩
    rw[HR.out,kF1 (by simpa using he)]
    rfl
   ·have kk:=k8.out W5 H5.out.2.2.2.1 H5.out.2.2.1.2;have HE:Hid (e4=0):=(by simpa using he:e4=0)
    cases hs:(sg != 0)
    ·go_wp2_with fail;refine kk.mono ?_;rintro r w6 ⟨rfl,qF⟩;have HB:Hid _:=H5.out.2.2.2.1.trans (qF.mono H5.out.2.2.2.1.size);clear kk qF
     go_wp2
     go_ret;refine⟨?_,HB.out⟩
     rw[HR.out,kF2 HE.out,kF1 (by simpa using hs)]
     rfl
    ·go_wp2_with fail;refine kk.mono ?_;rintro r w6 ⟨rfl,qF⟩;have HB:Hid _:=H5.out.2.2.2.1.trans (qF.mono H5.out.2.2.2.1.size);clear kk qF
     go_wp2
     go_ret;refine⟨?_,HB.out⟩
     rw[HR.out,kF2 HE.out,kF2 (by simpa using hs)]
     rfl
  ·go_wp2
   go_ret;exact⟨rfl,H5.out.2.2.2.1⟩
theorem zV6 (t:Bool×Nat×Int):∀ w u g cs Y,w.heap[g]?=some (.cells cs 50 (0,0))→NC3 cs→isP t w u→isP t (w.setRow g Y) u:=fun w u g cs Y h J V=>PN.row3 V h J Y
theorem map1k {a:Act} {v:Value} : #[Operand.const v].map a.eval = #[v]:=by simp[Act.eval]
theorem yW1 (f:Nat) (pl m:Int) (t1 t2 ta tn tw ts tr:Bool×Nat×Int) (bx ab up:Bool) (w:World)
  (k1:Hid (∀ W,Bw w W→Ca 32 #[.float .f64 f] W fun r w'=>OutA W ta r w'))
  (k2:Hid (∀ W,Bw w W→Ca 77 #[iV pl] W fun r w'=>qT3 W t1 t2 r w'))
  (k3:Hid (∀ (s1:Bool) (D:Option Addr) (n1 H:Nat) (e1:Int) (s2:Bool) (F:Option Addr) (n2 V:Nat) (e2:Int) (s3:Bool) (L:Option Addr) (n3 T:Nat) (e3:Int) W,Bw w W→PN W (.agg (Nu s1 D n1 H e1)) t1→PN W (.agg (Nu s2 F n2 V e2)) t2→PN W (.agg (Nu s3 L n3 T e3)) ta→Ca 96 #[.agg #[.bool s1,.slice D n1 H,iV e1,.bool s2,.slice F n2 V,iV e2],.agg (Nu s3 L n3 T e3)] W fun r w'=>zG9 W tn bx r w'))
  (k4:Hid (∀ (s1:Bool) (D:Option Addr) (n1 H:Nat) (e1:Int) (s2:Bool) (F:Option Addr) (n2 V:Nat) (e2:Int) (s3:Bool) (L:Option Addr) (n3 T:Nat) (e3:Int) (s4:Bool) (qY:Option Addr) (n4 qZ:Nat) (e4:Int) W,Bw w W→PN W (.agg (Nu s1 D n1 H e1)) t1→PN W (.agg (Nu s2 F n2 V e2)) t2→PN W (.agg (Nu s3 L n3 T e3)) ta→PN W (.agg (Nu s4 qY n4 qZ e4)) tn→Ca 97 #[.agg #[.bool s1,.slice D n1 H,iV e1,.bool s2,.slice F n2 V,iV e2],.agg (Nu s3 L n3 T e3),.agg (Nu s4 qY n4 qZ e4)] W (Rq W (.bool ab))))
  (k5:Hid (∀ W,Bw w W→Ca 99 #[iV 1] W fun r w'=>OutP W tw r w'))
  (k6:Hid (∀ W X Y,Bw w W→PN W X tn→PN W Y tw→Ca 98 #[X,Y] W fun r w'=>OutA W ts r w'))
  (k7:Hid (∀ W X,Bw w W→PN W X (if up then ts else tn)→Ca 61 #[X] W fun r w'=>OutA W tr r w'))
  (hm:Hid (m=1∨m=2∨m=3)) (qN:Hid (up=(!bx&&(decide (m=3)||decide (m=2)&&ab)))) :
  Ca 34 #[.float .f64 f,iV pl,iV m] w fun r w'=>OutA w tr r w':=by
 obtain⟨W,hW⟩:=eE (w.alloc (.cells (Nu false none 0 0 0) 50));have H0:Hid (Hn W w.heap.size false none 0 0 0 50∧Bw w W):=(by rw[hW];exact⟨kB7 _ _,bR.alloc lR _⟩:_∧_)
 have kk:=k1.out W H0.out.2;clear k1
 go_enter Tryz.func34,Tryz.ntmps34
 go_upto_region 1 with fail;rw[←hW];clear hW
 go_wp2_with fail;refine kk.mono ?_;rintro r w1 ⟨s3,L,n3,T,e3,rfl,hA,qS⟩;clear kk;have H1:Hid ((Hn w1 w.heap.size false none 0 0 0 50∧Bw w w1)∧PN w1 (.agg (Nu s3 L n3 T e3)) ta):=⟨⟨qQ0 H0.out.1 qS (qQ7 H0.out.1),H0.out.2.trans (qS.mono H0.out.2.size)⟩,hA⟩;clear H0 hA qS;have kk:=k2.out w1 H1.out.1.2;clear k2
 go_wp2_with fail;refine kk.mono ?_;rintro r w2 ⟨U,rfl,hU,qJ⟩;obtain⟨s1,D,n1,H,e1,s2,F,n2,V,e2,rfl,p1,p2⟩:=hU;clear kk;obtain⟨W2,qT⟩:=eE ((w2.alloc (.cells (Nu s3 L n3 T e3) 50)).alloc (.cells #[.bool s1,.slice D n1 H,iV e1,.bool s2,.slice F n2 V,iV e2] 104));obtain⟨z1,z2,z3,z4⟩:=qG9 _ _ qT
 go_upto_region 2 with fail;rw[←qT];clear qT;have qV:Bw w1 W2:=qJ.trans (z4.mono qJ.size);have hl:=qQ7 H1.out.1.1;have qM:=qJ.size;have q1:=p1.later z4;have q2:=p2.later z4;have q3:=(H1.out.2.later qJ).later z4;clear p1 p2 z3 z4;generalize w2.heap.size=J at *;have H2:Hid (Hn W2 w.heap.size false none 0 0 0 50∧Bw w W2∧PBx W2 J s3 L n3 T e3 ta∧Hx W2 (J+1) #[.bool s1,.slice D n1 H,iV e1,.bool s2,.slice F n2 V,iV e2] 104∧PN W2 (.agg (Nu s1 D n1 H e1)) t1∧PN W2 (.agg (Nu s2 F n2 V e2)) t2∧w.heap.size<J):=⟨qQ0 H1.out.1.1 qV hl,H1.out.1.2.trans (qV.mono H1.out.1.2.size),⟨z1,q3⟩,z2,q1,q2,ω⟩;clear H1 z1 z2 q1 q2 q3 qJ qV hl qM;obtain⟨c0,c1,c2,c3,c4,c5⟩:=(qU1 H2.out.2.2.2.1).1;obtain⟨d0,d1,d2⟩:=(qK8 H2.out.2.2.1.1).1;have kk:=k3.out s1 D n1 H e1 s2 F n2 V e2 s3 L n3 T e3 W2 H2.out.2.1 H2.out.2.2.2.2.1 H2.out.2.2.2.2.2.1 H2.out.2.2.1.2;clear k3
 go_wp2_with fail;refine kk.mono ?_;rintro r w3 ⟨s4,qY,n4,qZ,e4,rfl,hA,qU⟩;clear kk c0 c1 c2 c3 c4 c5 d0 d1 d2;obtain⟨W3,qG⟩:=eE (w3.alloc (.cells (Nu s4 qY n4 qZ e4) 50));have qP:Bw w3 W3:=by rw[qG];exact bR.alloc lR _
 have n6:Hn W3 w3.heap.size s4 qY n4 qZ e4 50:=by rw[qG];exact kB7 _ _
 have qQ:Bw W2 W3:=qU.trans (qP.mono qU.size)
 go_upto_region 3 with fail;rw[←qG];clear qG;have qA:=hA.later qP;have hl:=qQ7 H2.out.2.2.2.1;have qM:=qU.size;clear qP hA;generalize w3.heap.size=C at *;have I:Hid (Hn W3 w.heap.size false none 0 0 0 50∧Bw w W3∧PBx W3 J s3 L n3 T e3 ta∧Hx W3 (J+1) #[.bool s1,.slice D n1 H,iV e1,.bool s2,.slice F n2 V,iV e2] 104∧PN W3 (.agg (Nu s1 D n1 H e1)) t1∧PN W3 (.agg (Nu s2 F n2 V e2)) t2∧w.heap.size<J∧PBx W3 C s4 qY n4 qZ e4 tn∧J+1<C):=⟨qQ0 H2.out.1 qQ (qQ7 H2.out.1),H2.out.2.1.trans (qQ.mono H2.out.2.1.size),H2.out.2.2.1.later qQ,qQ0 H2.out.2.2.2.1 qQ (qQ7 H2.out.2.2.2.1),H2.out.2.2.2.2.1.later qQ,H2.out.2.2.2.2.2.1.later qQ,H2.out.2.2.2.2.2.2,⟨n6,qA⟩,ω⟩;clear H2 n6 qA qU qQ hl qM
 go_cut [36] from 21 to 35 (fun v wx=>v=.bool up∧Hid (Hn wx w.heap.size false none 0 0 0 50∧Bw w wx∧PBx wx J s3 L n3 T e3 ta∧Hx wx (J+1) #[.bool s1,.slice D n1 H,iV e1,.bool s2,.slice F n2 V,iV e2] 104∧PN wx (.agg (Nu s1 D n1 H e1)) t1∧PN wx (.agg (Nu s2 F n2 V e2)) t2∧w.heap.size<J∧PBx wx C s4 qY n4 qZ e4 tn∧J+1<C))
 case first =>
  have hu:=qN.out;cases bx
  ·rcases hm.out with rfl|rfl|rfl
   ·go_wp2
    go_meet
    exact⟨by rw[hu];rfl,I⟩
   ·obtain⟨c0,c1,c2,c3,c4,c5⟩:=(qU1 I.out.2.2.2.1).1;obtain⟨d0,d1,d2⟩:=(qK8 I.out.2.2.1.1).1;obtain⟨x0,x1,x2⟩:=(qK8 I.out.2.2.2.2.2.2.2.1.1).1;have kk:=k4.out s1 D n1 H e1 s2 F n2 V e2 s3 L n3 T e3 s4 qY n4 qZ e4 W3 I.out.2.1 I.out.2.2.2.2.1 I.out.2.2.2.2.2.1 I.out.2.2.1.2 I.out.2.2.2.2.2.2.2.1.2;have HU:Hid (up=ab):=(by rw[hu];cases ab <;> rfl:up=ab)
    clear hu qN
    go_wp2_with fail;refine kk.mono ?_;rintro r w4 ⟨rfl,qX⟩;have H4:Hid (Hn w4 w.heap.size false none 0 0 0 50∧Bw w w4∧PBx w4 J s3 L n3 T e3 ta∧Hx w4 (J+1) #[.bool s1,.slice D n1 H,iV e1,.bool s2,.slice F n2 V,iV e2] 104∧PN w4 (.agg (Nu s1 D n1 H e1)) t1∧PN w4 (.agg (Nu s2 F n2 V e2)) t2∧w.heap.size<J∧PBx w4 C s4 qY n4 qZ e4 tn∧J+1<C):=⟨qQ0 I.out.1 qX (qQ7 I.out.1),I.out.2.1.trans (qX.mono I.out.2.1.size),I.out.2.2.1.later qX,qQ0 I.out.2.2.2.1 qX (qQ7 I.out.2.2.2.1),I.out.2.2.2.2.1.later qX,I.out.2.2.2.2.2.1.later qX,I.out.2.2.2.2.2.2.1,I.out.2.2.2.2.2.2.2.1.later qX,I.out.2.2.2.2.2.2.2.2⟩;clear kk c0 c1 c2 c3 c4 c5 d0 d1 d2 x0 x1 x2 qX I
    go_wp2
    go_meet
    exact⟨by rw[HU.out],H4⟩
   ·go_wp2
    go_meet
    exact⟨by rw[hu];rfl,I⟩
  ·go_wp2
   go_meet
   exact⟨by rw[hu];rfl,I⟩
 case rest =>
 obtain⟨rfl,H4⟩:=hcut;clear I k4 qN hm
 go_upto_if 36 with fail
 go_cut [] from 37 to 39 (fun wx=>∃ (s5:Bool) (qF:Option Addr) (n5 qH:Nat) (e5:Int),Hid (Hn wx w.heap.size false none 0 0 0 50∧Bw w wx∧PBx wx J s3 L n3 T e3 ta∧Hx wx (J+1) #[.bool s1,.slice D n1 H,iV e1,.bool s2,.slice F n2 V,iV e2] 104∧PN wx (.agg (Nu s1 D n1 H e1)) t1∧PN wx (.agg (Nu s2 F n2 V e2)) t2∧w.heap.size<J∧PBx wx C s5 qF n5 qH e5 (if up then ts else tn)∧J+1<C))
 case first =>
  cases up
  ·go_wp2
   go_meet
   exact⟨_,_,_,_,_,H4⟩
  ·go_upto_region 4 with fail;obtain⟨a1,a2,a3,a4,a5,a6,a7,a8,a9⟩:=H4.out;have qK:∀ i,i<1→∃ cs,Hx wc ((fun _=>C:Nat→Nat) i) cs 50∧NC3 cs:=fun i hi=>⟨_,a8.1,_,_,_,_,_,rfl⟩;refine qG4 qX2 [0,1,2] [3] [37,38,39] [[],[],[0,1]] [[0,2]] [2] (fun _=>9) (fun _=>C) w.heap.size 50 NC3 3 wc _ [isV (.agg (Nu s4 qY n4 qZ e4)),isP tw,isP ts] (by kernel_rfl) ⟨qQ2 _,qX4 _,qX4 _,trivial⟩ ⟨qK4 _ _ _,zV6 _,zV6 _,trivial⟩ (by show ∀ s ∈ [37,38,39],s<42;decide) ?_ ?_ Tryz.info50 ?_ ?_ ?_ ?_ a2.size ?_
   ·intro i hi U u h;obtain rfl:i=0:=Nat.lt_one_iff.1 hi;obtain⟨ao,cap,rfl,-⟩:=(show PN U u ts from h);exact⟨_,rfl,rfl,⟨_,_,_,_,_,rfl⟩,one3 rfl rfl⟩
   ·intro j hj o ho act U hK qW qB zY;have zJ:j<3:=hj;have qE:Bw w U:=a2.trans hK.below;rcases(by omega:j=0∨j=1∨j=2)with rfl|rfl|rfl
    ·obtain rfl:=kF0 ho;have zZ:act.tmps[(9:Nat)]?=some (Value.pointer (some ⟨C,0,none⟩)):=(qW 9 δ).trans rfl;have hn:=(zY 0 δ (by simp[dL])).trans a8.1
     have x:=(qK8 hn).1;exact .inl ⟨rfl,qK6 (f:=0) rfl zZ x.1 x.2.1 x.2.2 ⟨_,rfl,rfl,kH9 _ _⟩⟩
    ·obtain rfl:=kF0 ho;refine .inl ⟨rfl,qQ9 rfl (qZ4 Tryz.func99 (by kernel_rfl) (by kernel_rfl)) map1k ?_⟩
     refine(k5.out U qE).mono ?_
     rintro r w' ⟨_,_,_,_,_,rfl,hA,qR⟩;exact⟨_,rfl,_,rfl,hA,qR⟩
    ·obtain rfl:=kF0 ho;have y0:act.tmps[(37:Nat)]?=_:=dV (qB 0 (by simp[dL])) rfl
     obtain⟨u1,y1,v1⟩:=qB 1 (by simp[dL])
     have zQ:act.tmps[(38:Nat)]?=_:=y1;refine .inl ⟨rfl,qQ9 rfl (qZ4 Tryz.func98 (by kernel_rfl) (by kernel_rfl)) (map2 y0 zQ) ?_⟩
     refine(k6.out U _ _ qE (a8.2.keep3 hK qK) v1).mono ?_
     rintro r w' ⟨_,_,_,_,_,rfl,hA,qR⟩;exact⟨_,rfl,_,rfl,hA,qR⟩
   ·intro i hi;obtain rfl:i=0:=Nat.lt_one_iff.1 hi;exact⟨_,rfl,rfl⟩
   ·intro i hi;exact⟨rfl,δ⟩
   ·intro i hi;exact⟨by show w.heap.size≤C;omega,_,a8.1,rfl,_,_,_,_,_,rfl⟩
   ·intro i i' hi zX _;exact(Nat.lt_one_iff.1 hi).trans (Nat.lt_one_iff.1 zX).symm
   ·intro u U hK hu qC;obtain⟨zK,ya,za⟩:=qC 0 δ;have q2:PN U (u 2) ts:=hu 2 δ;have qL:u 2=.agg zK:=ya;rw[qL] at q2;obtain⟨s5,qF,n5,qH,e5,h5⟩:=q2.shape1;obtain rfl:=Value.agg.inj h5;have kp:∀ g,g≠C→g<wc.heap.size→U.heap[g]?=wc.heap[g]?:=fun g hg hl=>hK.keep g hl (fun i hi=>hg);have H6:Hid (Hn U w.heap.size false none 0 0 0 50∧Bw w U∧PBx U J s3 L n3 T e3 ta∧Hx U (J+1) #[.bool s1,.slice D n1 H,iV e1,.bool s2,.slice F n2 V,iV e2] 104∧PN U (.agg (Nu s1 D n1 H e1)) t1∧PN U (.agg (Nu s2 F n2 V e2)) t2∧w.heap.size<J∧PBx U C s5 qF n5 qH e5 ts∧J+1<C):=⟨(kp _ ω (qQ7 a1)).trans a1,a2.trans hK.below,⟨(kp _ ω (qQ7 a3.1)).trans a3.1,a3.2.keep3 hK qK⟩,(kp _ ω (qQ7 a4)).trans a4,a5.keep3 hK qK,a6.keep3 hK qK,a7,⟨za,q2⟩,a9⟩;clear hu qC ya za qL q2 h5 hK a1 a2 a3 a4 a5 a6 a8 qK kp H4;simp only[putL,show List.range 3 = [0,1,2] from rfl,show List.range 3 = [0,1,2] from rfl,kG2,kG3,kG4,kG5,kH2,kH3,kH0,kG9,List.foldl_cons,List.foldl_nil,Nat.reduceLT,Nat.reduceMod,Nat.reduceDiv,Nat.reduceMul,Nat.reduceAdd,Nat.reduceEqDiff,reduceIte,kG8,Act.put,kU9,kG0,kG1]
    go_wp2
    go_meet
    exact⟨_,_,_,_,_,H6⟩
 case rest =>
 obtain⟨s5,qF,n5,qH,e5,H6⟩:=hcut;clear H4;obtain⟨x0,x1,x2⟩:=(qK8 H6.out.2.2.2.2.2.2.2.1.1).1;have kk:=k7.out _ _ H6.out.2.1 H6.out.2.2.2.2.2.2.2.1.2
 go_wp2_with fail;refine kk.mono ?_;rintro r w7 ⟨s6,qO,n6,qI,e6,rfl,hA,qD⟩;clear kk x0 x1 x2;have H7:Hid ((Hn w7 w.heap.size false none 0 0 0 50∧Bw w w7)∧PN w7 (.agg (Nu s6 qO n6 qI e6)) tr):=⟨⟨qQ0 H6.out.1 qD (qQ7 H6.out.1),H6.out.2.1.trans (qD.mono H6.out.2.1.size)⟩,hA⟩;clear hA qD H6;obtain⟨⟨x1,x2,x3⟩,x4,x5,x6⟩:=qQ3 H7.out.1.1
 go_wp2;refine kB8 (kM2 rfl _ _ w.heap.size 50 (Nu s6 qO n6 qI e6) (0,0) _ rfl (qX8 _ _ _ H7.out.1.1) Tryz.underlying50 rfl Tryz.info50) rfl ?_;exact⟨_,_,_,_,_,rfl,qB4 H7.out.2 H7.out.1.1 _ _ _,qQ4 H7.out.1.2 lR _ _ _⟩
theorem yP6 {Q:Exit→Act→World→Prop} {o:Oper} {K:Act→World→Prop} {a:Act} {w:World} {s:Tmp} {x:Int} (hx : -4611686018427387904≤x∧x≤4611686018427387904) (u:o.op=.unOp .neg 3 (.tmp s)) (J:a.tmps[s]?=some (iV x)) (h:K (a.put o.dst (iV (-x))) w):o.wp Tryz.prog a w K Q:=by
 have Y:IntKind.i64.wrap (-x) = -x:=by rw[kB5];omega
 exact qZ6 (w':=w) (by simp[execOp,u,Act.eval,J,go_sem,Y]) h
theorem yP5 {Q:Exit→Act→World→Prop} {o:Oper} {K:Act→World→Prop} {a:Act} {w:World} {s:Tmp} {x c:Int} (hx : -4611686018427387904≤x - c∧x - c≤4611686018427387904) (u:o.op=.binOp .sub 3 (.tmp s) (.const (iV c)) 3) (J:a.tmps[s]?=some (iV x)) (h:K (a.put o.dst (iV (x - c))) w):o.wp Tryz.prog a w K Q:=by
 have Y:IntKind.i64.wrap (x - c)=x - c:=by rw[kB5];omega
 exact qZ6 (w':=w) (by simp[execOp,u,Act.eval,J,go_sem,Y]) h
theorem yK6 (t J:Bool×Nat×Int):∀ w u g Y,Hn w g false none 0 0 0 50→isF t J w u→isF t J (w.setRow g Y) u:=fun w u g Y V ⟨_,_,_,_,_,_,_,_,_,_,D,F,H⟩=>⟨_,_,_,_,_,_,_,_,_,_,D,PN.row3 F V ⟨_,_,_,_,_,rfl⟩ Y,PN.row3 H V ⟨_,_,_,_,_,rfl⟩ Y⟩
def isW2 (t:Bool×Nat×Int) (b:Bool):World→Value→Prop:=fun w u=>∃ A,u=.tuple #[A,.bool b]∧PN w A t
theorem qM9 (t:Bool×Nat×Int) (b:Bool):zK4 (isW2 t b):=fun _ _ _ u ⟨A,J,Y⟩=>⟨A,J,Y.later u⟩
theorem qR6 (t:Bool×Nat×Int) (b:Bool):∀ w u g Y,Hn w g false none 0 0 0 50→isW2 t b w u→isW2 t b (w.setRow g Y) u:=fun w u g Y J ⟨A,H,V⟩=>⟨A,H,PN.row3 V J ⟨_,_,_,_,_,rfl⟩ Y⟩
theorem qN4 {a:Act} {s:Tmp} {v:Value} (h:a.tmps[s]?=some v) : #[Operand.tmp s].map a.eval = #[v]:=by simp[qZ1 h]
theorem yL7 (H:Bool) (V:Option Addr) (F J:Nat) (L:Int) (T X sg:Int) (t1 t2 ta tn:Bool×Nat×Int) (bx:Bool) (w:World) (h3:PN w (.agg (Nu H V F J L)) ta) (qE : -70000≤T) (qC:T≤70000) (hX:Hid ((T - 1)*1262611 / 4194304=X))
  (k1:Hid (∀ W,Bw w W→PN W (.agg (Nu H V F J L)) ta→Ca 127 #[.agg (Nu H V F J L)] W (Rq W (iV T))))
  (k2:Hid (∀ W,Bw w W→Ca 77 #[iV (-X - 1)] W fun r w'=>qT3 W t1 t2 r w'))
  (k3:Hid (∀ (s1:Bool) (qY:Option Addr) (n1 qQ:Nat) (e1:Int) (s2:Bool) (qZ:Option Addr) (n2 I:Nat) (e2:Int) (H:Bool) (V:Option Addr) (F J:Nat) (L:Int) W,Bw w W→PN W (.agg (Nu s1 qY n1 qQ e1)) t1→PN W (.agg (Nu s2 qZ n2 I e2)) t2→PN W (.agg (Nu H V F J L)) ta→Ca 96 #[.agg #[.bool s1,.slice qY n1 qQ,iV e1,.bool s2,.slice qZ n2 I,iV e2],.agg (Nu H V F J L)] W fun r w'=>zG9 W tn bx r w'))
  (k4:Hid (∀ W X,Bw w W→PN W X tn→Ca 89 #[X] W (Rq W (iV sg)))) (zY:Hid (-1≤sg∧sg≤1)) :
  Ca 60 #[.agg (Nu H V F J L)] w (Rq w (iV (if 0<sg then X+1 else X))):=by
 obtain⟨R,hR⟩:=eE (if 0<sg then X+1 else X);rw[←hR];have qM:Hid _:=hR;have qN:Hid (-30000≤X∧X≤30000):=(by rw[←hX.out];omega : -30000≤X∧X≤30000)
 have qL:IntKind.i64.wrap (T - 1)=T - 1:=by rw[kB5];omega
 have qT:IntKind.i64.wrap ((T - 1)*1262611)=(T - 1)*1262611:=by rw[kB5];omega
 obtain⟨W,hW⟩:=eE (w.alloc (.cells (Nu H V F J L) 50));have H0:Hid (PBx W w.heap.size H V F J L ta∧Bw w W):=(by
  have hb:Bw w W:=by rw[hW];exact bR.alloc lR _
  exact⟨⟨by rw[hW];exact kB7 _ _,h3.later hb⟩,hb⟩:_∧_)
 obtain⟨⟨c0,c1,c2⟩,-⟩:=qQ3 H0.out.1.1;have kk:=k1.out W H0.out.2 H0.out.1.2;clear k1 h3 hR
 go_enter Tryz.func60,Tryz.ntmps60
 go_upto_region 1 with fail;rw[←hW];clear hW
 go_wp2_with fail;refine kk.mono ?_;rintro r w1 ⟨rfl,qV⟩;clear kk c0 c1 c2;have H1:Hid _:=And.intro (H0.out.1.later qV) (H0.out.2.trans (qV.mono H0.out.2.size));clear H0 qV
 go_upto_region 2 with fail;rw[hX.out];clear qL qT hX qE qC;obtain⟨m1,D⟩:=H1.out;obtain⟨x1,x2⟩:=qN.out;refine qM2 qX2 [0,1,2,3,4,5,6,7,8,11] [9] [10] [12,13,14,15,16,17,11,18,19,5] [4] [[],[0],[1],[2],[],[3,4],[5],[6],[6],[8]] [7] 50 (Nu false none 0 0 0) w1 _ [isV (iV X),isV (iV (-X)),isV (iV (-X - 1)),isF t1 t2,isV (.agg (Nu H V F J L)),isW2 tn bx,isW2 tn bx,isP tn,isV (.bool bx),isV (.bool bx)] (by kernel_rfl) ⟨qQ2 _,qQ2 _,qQ2 _,zV7 _ _,qQ2 _,qM9 _ _,qM9 _ _,qX4 _,qQ2 _,qQ2 _,trivial⟩ ⟨fun _ _ _ _ _ h=>h,fun _ _ _ _ _ h=>h,fun _ _ _ _ _ h=>h,yK6 _ _,fun _ _ _ _ _ h=>h,qR6 _ _,qR6 _ _,qJ5 _,fun _ _ _ _ _ h=>h,fun _ _ _ _ _ h=>h,trivial⟩ (by show ∀ s ∈ [12,13,14,15,16,17,11,18,19,5] ++ [4],s<26;decide) ?_ ?_ ?_ zK8 Tryz.info50 ?_ ?_
 ·intro k' hk U u h;obtain rfl:k'=0:=Nat.lt_one_iff.1 hk;obtain⟨ao,cap,rfl,-⟩:=(show PN U u tn from h);exact⟨_,rfl,rfl,one3 rfl rfl⟩
 ·intro j hj o C act U hb qX Y;have zX:j<10:=hj;have qH:Bw w U:=D.trans (hb.mono D.size);have qR:act.tmps[(1:Nat)]?=some (Value.pointer (some ⟨w.heap.size,0,none⟩)):=(qX 1 δ).trans rfl;have qS:act.tmps[(3:Nat)]?=some (iV X):=(qX 3 δ).trans rfl;have d1:=(qK8 (qQ0 m1.1 hb (qQ7 m1.1))).1;rcases(by omega:j=0∨j=1∨j=2∨j=3∨j=4∨j=5∨j=6∨j=7∨j=8∨j=9)with rfl|rfl|rfl|rfl|rfl|rfl|rfl|rfl|rfl|rfl
  ·obtain rfl:=kF0 C;exact .inl ⟨rfl,qZ7 rfl qS ⟨_,rfl,rfl,kH9 _ _⟩⟩
  ·obtain rfl:=kF0 C;have y:act.tmps[(12:Nat)]?=_:=dV (Y 0 (by simp[dL])) rfl
   exact .inl ⟨rfl,yP6 ω rfl y ⟨_,rfl,rfl,kH9 _ _⟩⟩
  ·obtain rfl:=kF0 C;have y:act.tmps[(13:Nat)]?=_:=dV (Y 1 (by simp[dL])) rfl
   exact .inl ⟨rfl,yP5 ω rfl y ⟨_,rfl,rfl,kH9 _ _⟩⟩
  ·obtain rfl:=kF0 C;have y:act.tmps[(14:Nat)]?=_:=dV (Y 2 (by simp[dL])) rfl
   refine .inl ⟨rfl,qQ9 rfl (qZ4 Tryz.func77 (by kernel_rfl) (by kernel_rfl)) (qN4 y) ?_⟩
   refine(k2.out U qH).mono ?_
   rintro r w' ⟨A,rfl,hA,qU⟩;exact⟨_,rfl,_,rfl,hA,qU⟩
  ·obtain rfl:=kF0 C;exact .inl ⟨rfl,qK6 (f:=0) rfl qR d1.1 d1.2.1 d1.2.2 ⟨_,rfl,rfl,kH9 _ _⟩⟩
  ·obtain rfl:=kF0 C;obtain⟨u3,y3,v3⟩:=Y 3 (by simp[dL])
   have qD:act.tmps[(15:Nat)]?=_:=y3;obtain⟨s1,qY,n1,qQ,e1,s2,qZ,n2,I,e2,rfl,q1,q2⟩:=(show Fv U u3 t1 t2 from v3);have y4:act.tmps[(16:Nat)]?=_:=dV (Y 4 (by simp[dL])) rfl
   refine .inl ⟨rfl,qQ9 rfl (qZ4 Tryz.func96 (by kernel_rfl) (by kernel_rfl)) (map2 qD y4) ?_⟩
   refine(k3.out s1 qY n1 qQ e1 s2 qZ n2 I e2 H V F J L U qH q1 q2 (m1.2.later hb)).mono ?_
   rintro r w' ⟨_,_,_,_,_,rfl,hA,qU⟩;exact⟨_,rfl,_,rfl,⟨_,rfl,hA⟩,qU⟩
  ·obtain rfl:=kF0 C;obtain⟨u5,y5,v5⟩:=Y 5 (by simp[dL])
   have qP:act.tmps[(17:Nat)]?=_:=y5;exact .inl ⟨rfl,qZ7 rfl qP ⟨_,rfl,v5,kH9 _ _⟩⟩
  ·obtain rfl:=kF0 C;obtain⟨u6,y6,A,rfl,vA⟩:=Y 6 (by simp[dL])
   have qK:act.tmps[(11:Nat)]?=_:=y6;exact .inl ⟨rfl,qJ9 rfl qK rfl ⟨_,rfl,vA,kH9 _ _⟩⟩
  ·obtain rfl:=kF0 C;obtain⟨u6,y6,A,rfl,vA⟩:=Y 6 (by simp[dL])
   have qK:act.tmps[(11:Nat)]?=_:=y6;exact .inl ⟨rfl,qJ9 rfl qK rfl ⟨_,rfl,rfl,kH9 _ _⟩⟩
  ·obtain rfl:=kF0 C;have y:act.tmps[(19:Nat)]?=_:=dV (Y 8 (by simp[dL])) rfl
   exact .inl ⟨rfl,qX5 rfl y ⟨_,rfl,rfl,kH9 _ _⟩⟩
 ·intro k' hk;obtain rfl:k'=0:=Nat.lt_one_iff.1 hk;exact⟨_,rfl,rfl⟩
 ·intro k' hk;obtain rfl:k'=0:=Nat.lt_one_iff.1 hk;exact⟨_,rfl,rfl⟩
 ·intro u g W3 qB hu hg qW;obtain⟨g0,qI,q0,z0⟩:=hg 0 δ;have q7:PN W3 (u 7) tn:=hu 7 δ;have qG:u 7=.agg qI:=q0;rw[qG] at q7;obtain⟨s5,zQ,n5,qO,e5,h5⟩:=q7.shape1;obtain rfl:=Value.agg.inj h5;obtain⟨qA,qJ⟩:=eE (g 0);rw[←qJ] at z0 g0;have H3:Hid (PBx W3 qA s5 zQ n5 qO e5 tn∧Bw w W3):=⟨⟨z0,q7⟩,D.trans (qB.mono D.size)⟩;clear hu hg qW qB m1 D H1 q0 qG z0 g0 q7 h5 k2 k3 x1 x2;simp only[putL,show List.range 10 = [0,1,2,3,4,5,6,7,8,9] from rfl,show List.range 1 = [0] from rfl,kG2,kG3,kG4,kG5,kH2,kH3,kH0,kG9,List.foldl_cons,List.foldl_nil,Nat.reduceLT,Nat.reduceMod,Nat.reduceDiv,Nat.reduceMul,Nat.reduceAdd,Nat.reduceEqDiff,reduceIte,kG8,Act.put,kU9,kG0,kG1];rw[←qJ];clear qJ;obtain⟨⟨c0,c1,c2⟩,-⟩:=qQ3 H3.out.1.1;have kk:=k4.out W3 _ H3.out.2 H3.out.1.2;clear k4
  go_wp2_with fail;refine kk.mono ?_;rintro r w4 ⟨rfl,qF⟩;have H4:Hid _:=H3.out.2.trans (qF.mono H3.out.2.size);clear kk c0 c1 c2 qF H3;have zZ:IntKind.i64.wrap (X+1)=X+1:=by have:=qN.out;rw[kB5];omega
  by_cases hs:0<sg
  ·obtain rfl:R=X+1:=by rw[qM.out,kU6 hs]
   go_wp2
   go_ret;exact⟨rfl,H4.out⟩
  ·obtain rfl:R=X:=by rw[qM.out,kU5 hs]
   go_wp2
   go_ret;exact⟨rfl,H4.out⟩
theorem yF6 (F:Bool) (v:Value) (e:Int) (x n:Nat) (w:World) (h:Is w v x) (hn:Hid (dlen x=n)) (qQ:n≤2) (qJ:0≤e) (qK:e<64) (hx:Hid (x*2^e.toNat<18446744073709551616)) :
  Ca 92 #[.agg #[.bool F,v,iV e]] w (Rq w (.int .u64 (x*2^e.toNat:Nat))):=by
 obtain⟨ao,cap,rfl,-,-,b,o,L,H⟩:=h;rw[hn.out] at L H ⊢;obtain⟨W,V⟩:=eE (w.alloc (.cells (Nu F ao n cap e) 50));have Y:Bw w W:=by rw[V];exact bR.alloc lR _
 have HB:Hid _:=Y;have J:Hn W w.heap.size F ao n cap e 50:=by rw[V];exact kB7 _ _
 obtain⟨⟨c0,c1,c2⟩,-⟩:=qQ3 J;have C:∀ i,i<n→Ce W b (o+i) (.int .u32 (dg x i:Nat)):=fun i hi=>(Y.cell (World.block_lt_of_cell? _ _ (H i hi))).trans (H i hi);clear J Y H
 go_enter Tryz.func92,Tryz.ntmps92
 go_upto_region 1 with fail;rw[←V];clear V
 go_wp2
 go_loop [3,9] (fun c s=>∃ i:Nat,i≤n∧c=.int .u64 (x % B^i:Nat)∧s=iV i) (fun _ s=>n - (intOf s).toNat)
 case atStart=>exact⟨0,kB4 _,by simp[Nat.mod_one],rfl⟩
 case round =>
  obtain⟨i,hi,rfl,rfl⟩:=hrel;by_cases T:i<n
  ·obtain rfl:=L ω;have g:=C i T;have qX:(i:Int)<(n:Int):=ω;have HS:Hid (x % B^(i+1)=x % B^i+B^i*dg x i∧x % B^i<B^i∧dg x i<B):=⟨qK3 x i,kB3 _ (qZ2 i),qX1 _ _⟩;generalize hq:x % B^i=q at *;generalize hd:dg x i=d at *;clear C hq hd;rcases(show i=0∨i=1 by omega)with rfl|rfl
   ·rw[kH7] at g;have qY:(0:Int)<(n:Int):=ω
    go_wp2;exact⟨⟨1,ω,by rw[tf0 HS.out],rfl⟩,by simp[intOf];omega⟩
   ·have qZ:(1:Int)<(n:Int):=ω
    go_wp2;exact⟨⟨2,ω,by rw[tf1 HS.out],rfl⟩,by simp[intOf];omega⟩
  ·obtain rfl:i=n:=ω;have u:x % B^i=x:=kB2 ((qZ3 i x).1 (by rw[hn.out];omega))
   rw[u];clear L C u;obtain⟨k,rfl⟩:∃ k:Nat,e=(k:Int):=⟨e.toNat,ω⟩;have D:x*2^k<18446744073709551616:=by have:=hx.out;rwa [kN9] at this
   have I:Hid (IntKind.u64.wrap ((x:Int)*2^k)=(x:Int)*2^k):=(by
    have e1:(x:Int)*2^k=((x*2^k:Nat):Int):=by simp
    rw[e1,kB6];omega:IntKind.u64.wrap ((x:Int)*2^k)=(x:Int)*2^k)
   clear D
   go_wp2
   go_ret;refine⟨?_,HB.out⟩
   show Ending.returned (Value.int .u64 (IntKind.u64.wrap ((x:Int)*2^k)))=_
   rw[I.out]
theorem yL9 {N:Nat} {X:Value} {w:World} (L:N<18446744073709551616) (T:PN w X (un (N:Int) 0)):Ca 92 #[X] w (Rq w (.int .u64 N)):=by
 obtain⟨ao,cap,rfl,u⟩:=T;by_cases Y:N=0
 ·subst Y;have W:un ((0:Nat):Int) 0=nilN:=un_0 0;rw[W] at u ⊢;have k:=yF6 false (.slice ao (dlen nilN.2.1) cap) 0 0 0 w u qQ5 ω ω ω (by decide:0*2^(0:Int).toNat<18446744073709551616)
  exact k
 ·have e2:(un (N:Int) 0).2.2=(tz N:Int):=by
   unfold un cn;rw[kN1,kU5 Y];simp
  have F:(un (N:Int) 0).2.1=N / 2^tz N:=by
   unfold un cn;rw[kN1,kU5 Y]
  have V:=(qX0 _ _ lR Y).1;have J:N / 2^tz N≤N:=kF9 _ _;have D:tz N<64:=by
   rcases Nat.lt_or_ge (tz N) 64 with h|h
   ·exact h
   ·exfalso;have I:2^64≤2^tz N:=kF4 δ h;have C:2^tz N≤N:=Nat.le_of_dvd ω ⟨_,V.symm⟩;have:(2:Nat)^64=18446744073709551616:=by decide
    omega
  have H:(N / 2^tz N)*2^((tz N:Int)).toNat=N:=by rw[kN9,kN4];exact V
  rw[F] at u;rw[e2,F];have k:=yF6 (un (N:Int) 0).1 (.slice ao (dlen (N / 2^tz N)) cap) (tz N:Int) (N / 2^tz N) _ w u rfl ((qZ3 2 _).2 (kF7 J (by unfold B;omega))) ω ω (by rw[H];exact L)
  rw[H] at k;exact k
structure MkB (w wr:World) (n:Nat) (f:Nat→Nat):Prop where
 below:Bw w wr
 size:wr.heap.size=w.heap.size+1
 row:wr.rowIs w.heap.size 5 n (fun i=>.int .u8 (f i:Nat))
theorem MkB.start (w:World) (n:Nat):MkB w (w.alloc (.cells (madeCells #[.int .u8 0] n) 5)) n (fun _=>0) :=
 ⟨bR.alloc lR _,by simp,World.rowIs_made w _ n 5⟩
theorem MkB.cell {w wr:World} {n:Nat} {f:Nat→Nat} (h:MkB w wr n f) {i:Nat} (hi:i<n):wr.cell? ⟨w.heap.size,i,none⟩=some (.int .u8 (f i:Nat)):=h.row.cell hi
theorem MkB.frozen {w wr:World} {n:Nat} {f:Nat→Nat} (h:MkB w wr n f) (i:Nat):wr.frozen? ⟨w.heap.size,i,none⟩=false:=h.row.frozen i
theorem MkB.set {w wr:World} {n:Nat} {f:Nat→Nat} (h:MkB w wr n f) (i d:Nat):MkB w (wr.setCell ⟨w.heap.size,i,none⟩ (.int .u8 (d:Nat))) n (fun j=>if j=i then d else f j) :=
 ⟨h.below.setCell lR _,by simp[h.size],(h.row.set i _).congr (fun j _=>by split <;> rfl)⟩
theorem MkB.congr {w wr:World} {n:Nat} {f g:Nat→Nat} (h:MkB w wr n f) (e:∀ i,i<n→f i=g i):MkB w wr n g :=
 ⟨h.below,h.size,h.row.congr (fun i hi=>by rw[e i hi])⟩
def ldB (n c j:Nat):Nat:=48+n / 10^(c - 1 - j) % 10
def ldL (n c:Nat):List UInt8:=(List.range c).map (fun j=>UInt8.ofNat (ldB n c j))
theorem Dlast (n c:Nat) (w:World) (hn:n<18446744073709551616) (qP:0<c) (hc:c≤18) :
  Ca 91 #[.int .u64 n,iV c] w (Rq w (.string ⟨(ldL n c).toArray⟩)):=by
 have L:=run_make_row' (P:=Tryz.prog) 65 5 (.int .u8 0) 1 Tryz.underlying65 (by kernel_rfl) rfl .i64 .i64 c ω ω
 have qG:IntKind.i64.wrap ((c:Int) - 1)=(c:Int) - 1:=by rw[kB5];omega
 go_enter Tryz.func91,Tryz.ntmps91
 go_wp2;clear L
 go_loopw [0,10] (fun d v wr=>∃ i:Nat,i≤c∧d=.int .u64 (n / 10^i:Nat)∧v=iV i∧Hid (MkB w wr c (fun j=>if c - i≤j then ldB n c j else 0))) (fun _ v _=>c - (intOf v).toNat)
 case atStart=>exact⟨0,kB4 _,by rw[kN7,Nat.div_one],rfl,(MkB.start w c).congr fun j D=>by rw[kU5 ω]⟩
 case round =>
  obtain⟨i,hi,rfl,rfl,Y⟩:=hrel;by_cases qN:i<c
  ·obtain⟨k,hk⟩:∃ k:Nat,(c:Int) - 1 - (i:Int)=(k:Int):=⟨c - 1 - i,ω⟩;obtain⟨d,T⟩:=eE (n / 10^i);rw[←T];have qM:d≤n:=by rw[T];exact kF9 _ _
   have qB:(i:Int)<(c:Int):=ω;have qF:(k:Int)<(c:Int):=ω;have qU:IntKind.i64.wrap ((c:Int) - 1 - (i:Int))=(k:Int):=by rw[kB5,hk];omega
   have hr:(d:Int).tmod 10=((d % 10:Nat):Int):=by rw[Int.tmod_eq_emod_of_nonneg ω];rfl
   have hq:(d:Int).tdiv 10=((d / 10:Nat):Int):=by rw[kG6 ω];rfl
   obtain⟨m,W⟩:=eE (d % 10);obtain⟨q,u⟩:=eE (d / 10);rw[←W] at hr;rw[←u] at hq;have qZ:m<10:=ω;have qV:IntKind.u8.wrap (m:Int)=(m:Int):=by rw[IntKind.wrap_u8];omega
   have qJ:IntKind.u8.wrap (48+(m:Int))=((48+m:Nat):Int):=by rw[IntKind.wrap_u8];omega
   have qY:IntKind.u64.wrap (q:Int)=(q:Int):=by rw[kB6];omega
   have qX:IntKind.u64.wrap (m:Int)=(m:Int):=by rw[kB6];omega
   have qK:IntKind.i64.wrap ((i:Int)+1)=(i:Int)+1:=by rw[kB5];omega
   have HD:Hid (d=n / 10^i∧m=d % 10∧q=d / 10∧k=c - 1 - i):=⟨T,W,u,ω⟩;clear T W u;have g:=Y.out.cell (i:=k) ω;have gf:=Y.out.frozen k
   go_wp2;obtain⟨e1,e2,e3,e4⟩:=HD.out;have V:=Y.out.set k (48+m);refine⟨⟨i+1,ω,?_,by push_cast;rfl,?_⟩,by simp[intOf];omega⟩
   ·rw[e3,e1,kN0,←kN5]
   ·have J:MkB w (wr.setCell ⟨w.heap.size,k,none⟩ (.int .u8 (48+(m:Int)))) c (fun j=>if j=k then 48+m else if c - i≤j then ldB n c j else 0):=by
     have e5:((48+m:Nat):Int)=48+(m:Int):=ω;rw[e5] at V;exact V
    refine J.congr fun j D=>?_;by_cases H:j=k
    ·rw[kU6 H,kU6 ω];unfold ldB;rw[show c - 1 - j=i by omega,←e1,←e2]
    ·rw[kU5 H];by_cases F:c - i≤j
     ·rw[kU6 F,kU6 ω]
     ·rw[kU5 F,kU5 ω]
  ·obtain rfl:i=c:=ω;have C:(ldL n i).length=i:=by simp[ldL]
   have qQ:=run_convert_bytes_back (P:=Tryz.prog) wr 65 9 5 ⟨w.heap.size,0,none⟩ i (ldL n i) Tryz.underlying65 Tryz.underlying5 Tryz.underlying9 (fun j D=>by
    have I:j<i:=by rw[C] at D;exact D
    have g:=Y.out.cell I;have ea:(⟨w.heap.size,0,none⟩:Addr).add j=⟨w.heap.size,j,none⟩:=by
     simp only[Addr.add,kH6];split
     ·rename_i h;rw[h]
     ·rfl
    rw[ea,g,kU6 ω];have hb:ldB n i j<256:=by unfold ldB;omega
    simp[ldL,kB2 hb])
   rw[C] at qQ;have HB:Hid _:=Y.out.below;have qH:¬ (i:Int)<(i:Int):=ω;clear Y C
   go_wp2
   go_ret;exact⟨rfl,HB.out⟩
def wtL (N:Nat):Nat→List UInt8
 | 0 => []
 | k+1=>ldL (N / 10^(18*k) % 10^18) 18++wtL N k
theorem xV5 {Q:Exit→Act→World→Prop} {o:Oper} {K:Act→World→Prop} {a:Act} {w:World} {s:Tmp} {t:Tmp} {x y:ByteArray} (u:x.size+y.size≤9223372036854775807) (Y:o.op=.binOp .add 9 (.tmp s) (.tmp t) 9) (V:a.tmps[s]?=some (.string x)) (J:a.tmps[t]?=some (.string y)) (h:K (a.put o.dst (.string (x++y))) w):o.wp Tryz.prog a w K Q :=
 qZ6 (w':=w) (by simp[execOp,Y,Act.eval,V,J,go_sem,u]) h
theorem zH6 (N:Nat):∀ k,(wtL N k).length=18*k
 | 0=>rfl
 | k+1=>by
  unfold wtL;rw[kM0,zH6 N k];simp[ldL];omega
theorem yG6 {M N k:Nat} (h:k≤100000):(⟨(ldL M 18).toArray⟩:ByteArray).size+(⟨(wtL N k).toArray⟩:ByteArray).size≤9223372036854775807:=by
 have Y:(ldL M 18).length=18:=by simp[ldL]
 have u:=zH6 N k;simp only[ByteArray.size,List.size_toArray,Y,u];omega
theorem zH0 (s1:Bool) (qU:Option Addr) (n1 qV:Nat) (e1:Int) (N L:Nat) (ts:Bool×Nat×Int) (qC:ByteArray) (w:World) (h1:PN w (.agg (Nu s1 qU n1 qV e1)) (un (N:Int) 0)) (hL:Hid (N<10^(18*L))) (zX:Hid (L≤100000)) (qL:Hid (∀ k,k<L→N / 10^(18*k)≠0))
  (k1:Hid (∀ W,Bw w W→Ca 88 #[iV 10,iV 18] W fun r w'=>OutA W ts r w'))
  (k2:Hid (∀ W X (Y:Nat),Bw w W→PN W X (un (Y:Int) 0)→Y≤N→Ca 89 #[X] W (Rq W (iV (if Y=0 then 0 else 1)))))
  (k3:Hid (∀ W X S Y,Bw w W→PN W X (un ((Y:Nat):Int) 0)→PN W S ts→Y≤N→Ca 90 #[X,S,iV 0] W fun r w'=>∃ (s5:Bool) (D:Option Addr) (n5 F:Nat) (e5:Int) (bx:Bool),r=.returned (.tuple #[.agg (Nu s5 D n5 F e5),.bool bx,iV 0])∧PN w' (.agg (Nu s5 D n5 F e5)) (un ((Y / 10^18:Nat):Int) 0)∧Bw W w'))
  (k4:Hid (∀ W X S Y,Bw w W→PN W X (un ((Y:Nat):Int) 0)→PN W S ts→Y≤N→Ca 94 #[X,S] W fun r w'=>OutA W (un ((Y*10^18:Nat):Int) 0) r w'))
  (k5:Hid (∀ W X Z' Y,Bw w W→PN W X (un ((Y:Nat):Int) 0)→PN W Z' (un ((Y / 10^18*10^18:Nat):Int) 0)→Y≤N→Ca 93 #[X,Z'] W fun r w'=>OutA W (un ((Y % 10^18:Nat):Int) 0) r w'))
  (k6:Hid (∀ W,Ca 95 #[.string ⟨(wtL N L).toArray⟩,.string ⟨#[48]⟩] W (Rq W (.string qC)))) :
  Ca 33 #[.agg (Nu s1 qU n1 qV e1)] w (Rq w (.string qC)):=by
 obtain⟨W,hW⟩:=eE (w.alloc (.cells (Nu s1 qU n1 qV e1) 50));have H0:Hid (PBx W w.heap.size s1 qU n1 qV e1 (un (N:Int) 0)∧Bw w W):=(by
  have hb:Bw w W:=by rw[hW];exact bR.alloc lR _
  exact⟨⟨by rw[hW];exact kB7 _ _,h1.later hb⟩,hb⟩:_∧_)
 have kk:=k1.out W H0.out.2;clear k1 h1
 go_enter Tryz.func33,Tryz.ntmps33
 go_upto_region 1 with fail;rw[←hW];clear hW
 go_wp2_with fail;refine kk.mono ?_;rintro r w1 ⟨s2,qY,n2,qZ,e2,rfl,hA,qP⟩;clear kk;obtain⟨W1,qS⟩:=eE (w1.alloc (.cells (Nu s2 qY n2 qZ e2) 50));have T:Bw w1 W1:=by rw[qS];exact bR.alloc lR _
 have n6:Hn W1 w1.heap.size s2 qY n2 qZ e2 50:=by rw[qS];exact kB7 _ _
 have qH:=qP.trans (T.mono qP.size)
 go_upto_region 2 with fail;rw[←qS];clear qS;have qB:=hA.later T;have hl:=H0.out.1.lt;have qR:=qP.size;clear T hA;generalize w1.heap.size=H at *;have H1:Hid (PBx W1 w.heap.size s1 qU n1 qV e1 (un (N:Int) 0)∧PBx W1 H s2 qY n2 qZ e2 ts∧Bw w W1∧w.heap.size<H):=⟨H0.out.1.later qH,⟨n6,qB⟩,H0.out.2.trans (qH.mono H0.out.2.size),ω⟩;clear H0 n6 qB qP qH hl qR
 go_wp2
 go_loopg [4] L (fun m v wr=>∃ (k:Nat) (s3:Bool) (qM:Option Addr) (n3 qN:Nat) (e3:Int),k+m=L∧v=.string ⟨(wtL N k).toArray⟩∧Hid (PBx wr w.heap.size s3 qM n3 qN e3 (un ((N / 10^(18*k):Nat):Int) 0)∧PBx wr H s2 qY n2 qZ e2 ts∧Bw w wr∧w.heap.size<H))
 case atStart=>exact⟨0,s1,qU,n1,qV,e1,ω,rfl,by rw[Nat.mul_zero,kN7,Nat.div_one];exact H1⟩
 case round =>
  obtain⟨k,s3,qM,n3,qN,e3,hk,rfl,HI⟩:=hrel;clear H1;obtain⟨Y,hY⟩:=eE (N / 10^(18*k));have HY:Hid (Y=N / 10^(18*k)∧Y≤N):=⟨hY,by rw[hY];exact kF9 _ _⟩
  have V:Hid (PBx wr w.heap.size s3 qM n3 qN e3 (un ((Y:Nat):Int) 0)∧PBx wr H s2 qY n2 qZ e2 ts∧Bw w wr∧w.heap.size<H):=by rw[hY];exact HI
  have HK:Hid _:=hk;clear hY HI hk;obtain⟨⟨a0,a1,a2⟩,-⟩:=qQ3 V.out.1.1;have kk:=k2.out wr _ Y V.out.2.2.1 V.out.1.2 HY.out.2;by_cases qJ:Y=0
  ·rw[kU6 qJ] at kk;obtain rfl:k=L:=by
    rcases Nat.lt_or_ge k L with h|h
    ·exact absurd (HY.out.1 ▸ qJ) (qL.out k h)
    ·have:=HK.out;omega
   clear qJ
   go_wp2_with fail;refine kk.mono ?_;rintro r w3 ⟨rfl,I⟩;have qE:Hid _:=V.out.2.2.1.trans (I.mono V.out.2.2.1.size);clear kk I a0 a1 a2 V;have kt:=k6.out w3
   go_wp2_with fail;refine kt.mono ?_;rintro r w4 ⟨rfl,C⟩;have zU:Hid _:=qE.out.trans (C.mono qE.out.size);clear kt C
   go_wp2
   go_ret;exact⟨rfl,zU.out⟩
  ·rw[kU5 qJ] at kk;have zJ:Hid _:=qJ;clear qJ
   go_wp2_with fail;refine kk.mono ?_;rintro r w3 ⟨rfl,I⟩;have H3:Hid _:=aI4 (V.out.1.later I) (V.out.2.1.later I) (V.out.2.2.1.trans (I.mono V.out.2.2.1.size)) V.out.2.2.2;clear kk I a0 a1 a2 V;obtain⟨⟨a0,a1,a2⟩,-⟩:=qQ3 H3.out.1.1;obtain⟨⟨b0,b1,b2⟩,-⟩:=qQ3 H3.out.2.1.1;have kk:=k3.out w3 _ _ Y H3.out.2.2.1 H3.out.1.2 H3.out.2.1.2 HY.out.2
   go_wp2_with fail;refine kk.mono ?_;rintro r w4 ⟨s5,D,n5,F,e5,bx,rfl,hA,C⟩;clear kk a0 a1 a2 b0 b1 b2;obtain⟨W4,qD⟩:=eE (w4.alloc (.cells (Nu s5 D n5 F e5) 50));have T:Bw w4 W4:=by rw[qD];exact bR.alloc lR _
   have n6:Hn W4 w4.heap.size s5 D n5 F e5 50:=by rw[qD];exact kB7 _ _
   have qK:=C.trans (T.mono C.size)
   go_upto_region 5 with fail;rw[←qD];clear qD;have qB:=hA.later T;have hl:=H3.out.2.1.lt;have qR:=C.size;clear T hA;generalize w4.heap.size=qT at *;have H4:Hid (PBx W4 w.heap.size s3 qM n3 qN e3 (un ((Y:Nat):Int) 0)∧PBx W4 H s2 qY n2 qZ e2 ts∧Bw w W4∧w.heap.size<H∧PBx W4 qT s5 D n5 F e5 (un ((Y / 10^18:Nat):Int) 0)∧H<qT):=⟨H3.out.1.later qK,H3.out.2.1.later qK,H3.out.2.2.1.trans (qK.mono H3.out.2.2.1.size),H3.out.2.2.2,⟨n6,qB⟩,ω⟩;clear H3 n6 qB C qK hl qR;obtain⟨m1,m2,qF,m3,m4,m5⟩:=H4.out;have zV:Hid ((⟨(ldL (Y % 10^18) 18).toArray⟩:ByteArray).size+(⟨(wtL N k).toArray⟩:ByteArray).size≤9223372036854775807):=yG6 (by have:=HK.out;have:=zX.out;omega)
   refine qW3 qX2 9 [19,20,21,22,23,24,25,26,27] [[],[],[],[1,2],[0,3],[4],[5],[],[6,7]] W4 _ [isV (.agg (Nu s3 qM n3 qN e3)),isV (.agg (Nu s5 D n5 F e5)),isV (.agg (Nu s2 qY n2 qZ e2)),isP (un ((Y / 10^18*10^18:Nat):Int) 0),isP (un ((Y % 10^18:Nat):Int) 0),isV (.int .u64 ((Y % 10^18:Nat):Int)),isV (.string ⟨(ldL (Y % 10^18) 18).toArray⟩),isV (.string ⟨(wtL N k).toArray⟩),isV (.string (⟨(ldL (Y % 10^18) 18).toArray⟩++⟨(wtL N k).toArray⟩))] (by kernel_rfl) ⟨qQ2 _,qQ2 _,qQ2 _,qX4 _,qX4 _,qQ2 _,qQ2 _,qQ2 _,qQ2 _,trivial⟩ ⟨rfl,δ,by show ∀ s ∈ [19,20,21,22,23,24,25,26,27],s<31;decide⟩ ?_ ?_
   ·intro j hj o ho act U hb qX J;have zH:=hj;have qW:=qF.trans (hb.mono qF.size);have zY:act.tmps[(1:Nat)]?=some (Value.pointer (some ⟨w.heap.size,0,none⟩)):=(qX 1 δ).trans rfl;have zZ:act.tmps[(3:Nat)]?=some (Value.pointer (some ⟨H,0,none⟩)):=(qX 3 δ).trans rfl;have qO:act.tmps[(5:Nat)]?=some (Value.pointer (some ⟨qT,0,none⟩)):=(qX 5 δ).trans rfl;have d1:=(qK8 (qQ0 m1.1 hb (qQ7 m1.1))).1;have d3:=(qK8 (qQ0 m2.1 hb (qQ7 m2.1))).1;have d5:=(qK8 (qQ0 m4.1 hb (qQ7 m4.1))).1;rcases(by omega:j=0∨j=1∨j=2∨j=3∨j=4∨j=5∨j=6∨j=7∨j=8)with rfl|rfl|rfl|rfl|rfl|rfl|rfl|rfl|rfl
    ·obtain rfl:=kF0 ho;exact(qK6 (f:=0) rfl zY d1.1 d1.2.1 d1.2.2 ⟨_,rfl,rfl,kH9 _ _⟩)
    ·obtain rfl:=kF0 ho;exact(qK6 (f:=0) rfl qO d5.1 d5.2.1 d5.2.2 ⟨_,rfl,rfl,kH9 _ _⟩)
    ·obtain rfl:=kF0 ho;exact(qK6 (f:=0) rfl zZ d3.1 d3.2.1 d3.2.2 ⟨_,rfl,rfl,kH9 _ _⟩)
    ·obtain rfl:=kF0 ho;have y1:act.tmps[(20:Nat)]?=_:=dV (J 1 (by simp[dL])) rfl
     have y2:act.tmps[(21:Nat)]?=_:=dV (J 2 (by simp[dL])) rfl
     refine(qQ9 rfl (qZ4 Tryz.func94 (by kernel_rfl) (by kernel_rfl)) (map2 y1 y2) ?_)
     refine(k4.out U _ _ _ qW (m4.2.later hb) (m2.2.later hb) (kF8 (kF9 _ _) HY.out.2)).mono ?_
     rintro r w' ⟨_,_,_,_,_,rfl,hA,qQ⟩;exact⟨_,rfl,_,rfl,hA,qQ⟩
    ·obtain rfl:=kF0 ho;have y0:act.tmps[(19:Nat)]?=_:=dV (J 0 (by simp[dL])) rfl
     obtain⟨u3,y3,v3⟩:=J 3 (by simp[dL])
     have qI:=y3;refine(qQ9 rfl (qZ4 Tryz.func93 (by kernel_rfl) (by kernel_rfl)) (map2 y0 qI) ?_)
     refine(k5.out U _ _ _ qW (m1.2.later hb) v3 HY.out.2).mono ?_
     rintro r w' ⟨_,_,_,_,_,rfl,hA,qQ⟩;exact⟨_,rfl,_,rfl,hA,qQ⟩
    ·obtain rfl:=kF0 ho;obtain⟨u4,y4,v4⟩:=J 4 (by simp[dL])
     have qA:=y4;refine(qQ9 rfl (qZ4 Tryz.func92 (by kernel_rfl) (by kernel_rfl)) (qN4 qA) ?_)
     refine(yL9 (N:=Y % 10^18) ω v4).mono ?_
     rintro r w' ⟨rfl,qQ⟩;exact⟨_,rfl,_,rfl,rfl,qQ⟩
    ·obtain rfl:=kF0 ho;have y5:act.tmps[(24:Nat)]?=_:=dV (J 5 (by simp[dL])) rfl
     refine(qQ9 rfl (qZ4 Tryz.func91 (by kernel_rfl) (by kernel_rfl)) (yY7 y5) ?_)
     refine(Dlast (Y % 10^18) 18 U ω ω ω).mono ?_
     rintro r w' ⟨rfl,qQ⟩;exact⟨_,rfl,_,rfl,rfl,qQ⟩
    ·obtain rfl:=kF0 ho;have zQ:act.tmps[(4:Nat)]?=some (.string ⟨(wtL N k).toArray⟩):=(qX 4 δ).trans rfl;exact(qZ7 rfl zQ ⟨_,rfl,rfl,kH9 _ _⟩)
    ·obtain rfl:=kF0 ho;have y6:act.tmps[(25:Nat)]?=_:=dV (J 6 (by simp[dL])) rfl
     have y7:act.tmps[(26:Nat)]?=_:=dV (J 7 (by simp[dL])) rfl
     exact(xV5 zV.out rfl y6 y7 ⟨_,rfl,rfl,kH9 _ _⟩)
   ·intro o ho u W5 qG hu;obtain rfl:=kF0 ho;have u8:u 8=.string (⟨(ldL (Y % 10^18) 18).toArray⟩++⟨(wtL N k).toArray⟩):=hu 8 δ;have H5:Hid _:=aI6 (m1.later qG) (m2.later qG) (qF.trans (qG.mono qF.size)) m3 (m4.later qG) m5;clear hu qG m1 m2 m3 m4 m5 qF H4;simp only[putL,show List.range 9 = [0,1,2,3,4,5,6,7,8] from rfl,show List.range 9 = [0,1,2,3,4,5,6,7,8] from rfl,kG2,kG3,kG4,kG5,kH2,kH3,kH0,kG9,List.foldl_cons,List.foldl_nil,Nat.reduceLT,Nat.reduceMod,Nat.reduceDiv,Nat.reduceMul,Nat.reduceAdd,Nat.reduceEqDiff,reduceIte,kG8,Act.put,kU9,kG0,kG1];rw[u8];clear u8;refine qX5 rfl rfl ?_;simp only[Act.put,kU9,kG0,kG1];obtain⟨⟨a0,a1,a2⟩,-⟩:=qQ3 H5.out.2.2.2.2.1.1;obtain⟨⟨b0,b1,b2⟩,f0,f1,f2⟩:=qQ3 H5.out.1.1
    go_wp2_with fail;have zG:k<L:=by
     rcases Nat.lt_or_ge k L with h|h
     ·exact h
     ·exfalso;refine zJ.out ?_;rw[HY.out.1];exact Nat.div_eq_of_lt (kF6 hL.out (kF4 δ ω))
    have eY:Y / 10^18=N / 10^(18*(k+1)):=by
     rw[HY.out.1,kN0,←kN3,Nat.mul_succ]
    have zK:(10:Nat)^18=1000000000000000000:=by decide
    go_roundg (gk - 1)
    case measure=>have:=HK.out;omega
    case rel =>
     obtain⟨q1,q2,q3,q4,q5,q6⟩:=H5.out;refine⟨k+1,s5,D,n5,F,e5,by have:=HK.out;omega,?_,?_⟩
     ·rw[qZ0];show Value.string _=Value.string ⟨(ldL (N / 10^(18*k) % 10^18) 18++wtL N k).toArray⟩
      rw[←HY.out.1,zK]
     ·rw[←eY];refine⟨⟨qX8 _ _ _ q1.1,qN2 q5.2 q1.1 _ _ _⟩,⟨(qH7 _ _ _ ω).trans q2.1,qN2 q2.2 q1.1 _ _ _⟩,qQ4 q3 lR _ _ _,q4⟩
def nzL (n:Int):List UInt8:=List.replicate n.toNat 48
theorem qD0 (n:Int):(nzL n).length=n.toNat:=by simp[nzL]
theorem yC1 (n:Int) (w:World) (F : -100000≤n∧n≤100000)
  (J:∀ W,Ca 126 #[.string ⟨#[48]⟩,iV (max 0 n)] W (Rq W (.string ⟨(nzL n).toArray⟩))) :
  Ca 59 #[iV n] w (Rq w (.string ⟨(nzL n).toArray⟩)):=by
 have Y:=J w
 go_enter Tryz.func59,Tryz.ntmps59
 go_wp2_with fail;refine Y.mono ?_;rintro r H ⟨rfl,u⟩;have V:Hid _:=u;clear Y u
 go_wp2
 go_ret;exact⟨rfl,V.out⟩
theorem bsz (L:List UInt8):(⟨L.toArray⟩:ByteArray).size=L.length:=rfl
def ptL (d:List UInt8) (p:Int):List UInt8:=if p≤0 then nzL (1 - d.length)++d++nzL (-p) else
 let e:=nzL (p+1 - d.length)++d
 e.take (e.length - p.toNat)++46 :: e.drop (e.length - p.toNat)
def KNz (w:World):Prop:=∀ (n:Int) W,-100000≤n∧n≤100000→Bw w W→Calls Tryz.prog 59 #[.int .i64 n] W fun r w'=>r=.returned (.string ⟨(nzL n).toArray⟩)∧Bw W w'
theorem zA2 (d:List UInt8) (p:Int) (w:World) (hd:d.length≤20000) (hp:p≤0) (qZ : -20000≤p) (T:Hid (KNz w)) :
  Ca 26 #[.string ⟨d.toArray⟩,iV p] w (Rq w (.string ⟨(ptL d p).toArray⟩)):=by
 have V:(⟨d.toArray⟩:ByteArray).size=d.length:=rfl;have qQ:IntKind.i64.wrap (1 - (d.length:Int))=1 - (d.length:Int):=by rw[kB5];omega
 have I:IntKind.i64.wrap (-p) = -p:=by rw[kB5];omega
 have u:=T.out (1 - (d.length:Int)) w ω bR;have C:=qD0 (1 - (d.length:Int));have W:=qD0 (-p);have H:(⟨(nzL (1 - (d.length:Int))).toArray⟩:ByteArray).size+(⟨d.toArray⟩:ByteArray).size≤9223372036854775807:=by simp only[bsz];omega
 have qY:((⟨(nzL (1 - (d.length:Int))).toArray⟩:ByteArray)++⟨d.toArray⟩).size+(⟨(nzL (-p)).toArray⟩:ByteArray).size≤9223372036854775807:=by rw[qZ0];simp only[bsz,kM0];omega
 rw[V] at H;clear C W
 go_enter Tryz.func26,Tryz.ntmps26
 go_wp2_with fail;refine u.mono ?_;rintro r L ⟨rfl,J⟩;have D:Hid _:=J;clear u J;have u:=T.out (-p) L ω D.out
 go_wp2_with fail;refine u.mono ?_;rintro r w2 ⟨rfl,Y⟩;have F:Hid _:=D.out.trans (Y.mono D.out.size);clear u Y
 go_wp2
 go_ret;refine⟨?_,F.out⟩
 show Ending.returned (Value.string _)=Ending.returned (Value.string _)
 rw[qZ0,qZ0];unfold ptL;rw[kU6 hp]
theorem qK0 (L:List UInt8) (k:Nat):(⟨L.toArray⟩:ByteArray).extract 0 k=⟨(L.take k).toArray⟩:=by
 apply ByteArray.ext
 simp[ByteArray.extract,ByteArray.copySlice]
theorem qJ3 (L:List UInt8) (k:Nat):(⟨L.toArray⟩:ByteArray).extract k L.length=⟨(L.drop k).toArray⟩:=by
 apply ByteArray.ext
 simp[ByteArray.extract,ByteArray.copySlice];rw[List.take_of_length_le (by simp)]
theorem zA1 (d E:List UInt8) (p:Int) (q:Nat) (w:World) (hd:d.length≤20000) (hp:¬ p≤0) (qK:p≤20000) (D:Hid (E=nzL (p+1 - d.length)++d)) (J:Hid ((E.length:Int) - p=(q:Int))) (W:Hid (KNz w)) :
  Ca 26 #[.string ⟨d.toArray⟩,iV p] w (Rq w (.string ⟨(E.take q++46 :: E.drop q).toArray⟩)):=by
 have qZ:(⟨d.toArray⟩:ByteArray).size=d.length:=rfl;have qQ:IntKind.i64.wrap (p+1)=p+1:=by rw[kB5];omega
 have I:IntKind.i64.wrap (p+1 - (d.length:Int))=p+1 - (d.length:Int):=by rw[kB5];omega
 have H:=W.out (p+1 - (d.length:Int)) w ω bR;have V:=qD0 (p+1 - (d.length:Int));have L:E.length=(p+1 - (d.length:Int)).toNat+d.length:=by rw[D.out,kM0,V]
 have qU:(⟨(nzL (p+1 - (d.length:Int))).toArray⟩:ByteArray).size+d.length≤9223372036854775807:=by simp only[bsz];omega
 have eC:(⟨(nzL (p+1 - (d.length:Int))).toArray⟩:ByteArray)++⟨d.toArray⟩=⟨E.toArray⟩:=by rw[qZ0,←D.out]
 have F:(⟨E.toArray⟩:ByteArray).size=E.length:=rfl;have C:IntKind.i64.wrap ((E.length:Int) - p)=(q:Int):=by rw[J.out,kB5];have:=J.out;omega
 have qY:(q:Int)≤(E.length:Int):=by have:=J.out;omega
 have u:q≤E.length:=ω;have T:Hid (q≤E.length∧E.length≤60000):=⟨u,ω⟩;have qV:((⟨E.toArray⟩:ByteArray).extract 0 q).size+(⟨#[46]⟩:ByteArray).size≤9223372036854775807:=by
  rw[qK0,bsz,List.length_take,show(⟨#[46]⟩:ByteArray).size=1 from rfl];have:=T.out;omega
 have qJ:((⟨E.toArray⟩:ByteArray).extract 0 q++⟨#[46]⟩).size+((⟨E.toArray⟩:ByteArray).extract q E.length).size≤9223372036854775807:=by
  rw[qK0,qJ3,show(⟨#[46]⟩:ByteArray)=⟨[46].toArray⟩from rfl,qZ0,bsz,bsz,kM0,List.length_take,List.length_drop];have:=T.out;simp;omega
 have qX:(0:Int)≤(q:Int):=ω;clear V L
 go_enter Tryz.func26,Tryz.ntmps26
 go_wp2_with fail;refine H.mono ?_;rintro r w1 ⟨rfl,Y⟩;have HB:Hid _:=Y;clear H Y
 go_upto_region 5 with fail
 go_quiet (fail)
 go_wp2
 go_ret;refine⟨?_,qH9 HB.out nq⟩
 show Ending.returned (Value.string _)=Ending.returned (Value.string _)
 rw[qK0,qJ3,show(⟨#[46]⟩:ByteArray)=⟨[46].toArray⟩from rfl,qZ0,qZ0,List.append_assoc];rfl
theorem qC6 {d:List UInt8} {p:Int} {w:World} (J:d.length≤20000) (Y : -20000≤p∧p≤20000) (u:KNz w) :
  Ca 26 #[.string ⟨d.toArray⟩,iV p] w (Rq w (.string ⟨(ptL d p).toArray⟩)):=by
 by_cases h:p≤0
 ·exact zA2 d p w J h Y.1 u
 ·have V:=qD0 (p+1 - (d.length:Int));have H:(nzL (p+1 - d.length)++d).length=(p+1 - (d.length:Int)).toNat+d.length:=by rw[kM0,V]
  have k:=zA1 d (nzL (p+1 - d.length)++d) p ((nzL (p+1 - d.length)++d).length - p.toNat) w J h Y.2 rfl (by show _=_;omega) u
  unfold ptL;rw[kU5 h];exact k
end Go.Proofs.YtfkaogdmlcdceaaGreatDoor
namespace Go.Proofs.YtfkaogdmlcdceaaGreatDoor
open Go Go.RowKit Go.Fl64
attribute [local go_sem] iV Nu
def IxD:Prop:=∀ (s:ByteArray) (w:World),
  Calls Tryz.prog 232 #[.string s,.string ⟨#[46]⟩] w fun e w'=>e=.returned (.int .i64 (Lib.indexByte s.data.toList 46))∧w'=w
theorem xG7 (Y:IxD) (s:ByteArray) (w:World) (W:s.size≤1099511627776) (i:Nat) (hi:Lib.indexByte s.data.toList 46=(i:Int)) (J:i<s.size) :
  Ca 174 #[.string s,.string ⟨#[46]⟩] w (Rq w (.tuple #[.string (s.extract 0 i),.string (s.extract (i+1) s.size),.bool true])):=by
 have k:=Y s;clear Y;rw[hi] at k;have L:(i:Int) ≥ 0:=ω;clear hi
 go_enter Tryz.func174,Tryz.ntmps174
 go_wp2_with (first|(go_at_call 232;refine(k _).mono ?_;rintro e w' ⟨rfl,u⟩;replace u:=u.symm;subst u)|fail)
 have T:(0:Int)≤i∧(i:Int)≤(s.size:Int):=ω;have D:(0:Int)≤(i:Int)+1∧(i:Int)+1≤(s.size:Int):=ω;have F:((i:Int)+1).toNat=i+1:=ω
 go_quiet (fail)
 have V:Hid (Below w.heap.size w (w.drewN nq)):=qH9 bR nq;generalize w.drewN nq=H at *
 go_wp2_with fail;refine kB8 (results_tmp3 rfl _ _ _) rfl ?_;exact⟨rfl,V.out⟩
theorem xG6 (Y:IxD) (s:ByteArray) (w:World) (hi:Lib.indexByte s.data.toList 46 = -1) :
  Ca 174 #[.string s,.string ⟨#[46]⟩] w (Rq w (.tuple #[.string s,.string ⟨#[]⟩,.bool false])):=by
 have k:=Y s;clear Y;rw[hi] at k;clear hi
 go_enter Tryz.func174,Tryz.ntmps174
 go_wp2_with (first|(go_at_call 232;refine(k _).mono ?_;rintro e w' ⟨rfl,u⟩;replace u:=u.symm;subst u)|fail)
 refine kB8 (results_tmp3 rfl _ _ _) rfl ?_;exact⟨rfl,kH9 _ _⟩
def zN8 (s:ByteArray):ByteArray:=if Lib.indexByte s.data.toList 46<0 then s else s.extract 0 (Lib.indexByte s.data.toList 46).toNat
def zN7 (s:ByteArray):ByteArray:=if Lib.indexByte s.data.toList 46<0 then⟨#[]⟩else s.extract ((Lib.indexByte s.data.toList 46).toNat+1) s.size
theorem ixbD (l:List UInt8) (c:UInt8):Lib.indexByte l c = -1∨∃ i:Nat,Lib.indexByte l c=(i:Int)∧i<l.length:=by
 induction l with
 | nil=>left;rfl
 | cons b l ih =>
  unfold Lib.indexByte;by_cases Y:(b==c)=true
  ·rw[kU6 Y];right;exact⟨0,rfl,by simp⟩
  ·rw[kU5 Y];rcases ih with u|⟨i,u,J⟩
   ·left;rw[u];rfl
   ·right
    refine⟨i+1,?_,by rw[kG2];omega⟩
    rw[u,kU5 (by rw[beq_iff_eq];omega)]
    omega
theorem lcutD (Y:IxD) (s:ByteArray) (w:World) (J:s.size≤1099511627776) :
  Ca 174 #[.string s,.string ⟨#[46]⟩] w fun r w'=>∃ b,r=.returned (.tuple #[.string (zN8 s),.string (zN7 s),.bool b])∧Bw w w':=by
 rcases ixbD s.data.toList 46 with h|⟨i,h,H⟩
 ·refine(xG6 Y s w h).mono ?_
  rintro r w' ⟨rfl,u⟩;refine⟨false,?_,u⟩
  unfold zN8 zN7;rw[h,kU6 δ,kU6 δ]
 ·have V:s.data.toList.length=s.size:=by rw[Array.length_toList];rfl
  refine(xG7 Y s w J i h ω).mono ?_
  rintro r w' ⟨rfl,u⟩;refine⟨true,?_,u⟩
  unfold zN8 zN7;rw[h,kU5 ω,kU5 ω,kN9]
theorem scutD (u:IxD) (s:ByteArray) (w:World) (J:s.size≤1099511627776) :
  Ca 119 #[.string s,.string ⟨#[46]⟩] w fun r w'=>∃ b,r=.returned (.tuple #[.string (zN8 s),.string (zN7 s),.bool b])∧Bw w w':=by
 have k:=lcutD u s w J;clear u;generalize zN8 s=A at *;generalize zN7 s=C at *
 go_enter Tryz.func119,Tryz.ntmps119
 go_wp2_with fail;refine k.mono ?_;rintro r H ⟨b,rfl,Y⟩;have V:Hid _:=Y;clear k Y
 go_wp2_with fail;refine kB8 (results_tmp3 rfl _ _ _) rfl ?_;exact⟨_,rfl,V.out⟩
def cuA (L:List UInt8):List UInt8:=if Lib.indexByte L 46<0 then L else L.take (Lib.indexByte L 46).toNat
def cuB (L:List UInt8):List UInt8:=if Lib.indexByte L 46<0 then [] else L.drop ((Lib.indexByte L 46).toNat+1)
theorem kZ8 (L:List UInt8):(cuA L).length+(cuB L).length≤L.length:=by
 unfold cuA cuB;split
 ·simp
 ·rw[List.length_take,List.length_drop];omega
theorem Dcut (L:List UInt8) (w:World) (u:L.length≤1099511627776) :
  Ca 119 #[.string ⟨L.toArray⟩,.string ⟨#[46]⟩] w fun r w'=>∃ b,r=.returned (.tuple #[.string ⟨(cuA L).toArray⟩,.string ⟨(cuB L).toArray⟩,.bool b])∧Bw w w':=by
 have k:=scutD (fun s w=>Tryz.stringslite_Index_one s 46 w) ⟨L.toArray⟩ w u;have Y:zN8 ⟨L.toArray⟩=⟨(cuA L).toArray⟩:=by
  unfold zN8 cuA;show(if Lib.indexByte L 46<0 then _ else _)=_
  split
  ·rfl
  ·exact qK0 L _
 have e2:zN7 ⟨L.toArray⟩=⟨(cuB L).toArray⟩:=by
  unfold zN7 cuB;show(if Lib.indexByte L 46<0 then _ else _)=_
  split
  ·rfl
  ·exact qJ3 L _
 rw[Y,e2] at k;exact k
end Go.Proofs.YtfkaogdmlcdceaaGreatDoor
namespace Go.Proofs.YtfkaogdmlcdceaaGreatDoor
open Go.RowKit Go.Fl64
attribute [local go_sem] iV Nu
def exL (d t:List UInt8):List UInt8:=d.take 1++(if 1<d.length then 46 :: d.drop 1 else [])++101 :: t
theorem zL4 (d t:List UInt8) (x:Int) (w:World) (qZ:0<d.length) (hd:d.length≤20000) (I:Hid (t.length≤100))
  (C:Hid (∀ W,Bw w W→Ca 79 #[iV x] W (Rq W (.string ⟨t.toArray⟩)))) :
  Ca 25 #[.string ⟨d.toArray⟩,iV x] w (Rq w (.string ⟨(exL d t).toArray⟩)):=by
 have qQ:(⟨d.toArray⟩:ByteArray).size=d.length:=rfl;have h1:(1:Int)≤(d.length:Int):=ω;obtain⟨A,Y⟩:∃ A:List UInt8,A=d.take 1++(if 1<d.length then 46 :: d.drop 1 else []):=⟨_,rfl⟩;have J:A.length≤20001:=by
  rw[Y,kM0,List.length_take];split
  ·rw[kG2,List.length_drop];omega
  ·simp;omega
 have HA:Hid _:=Y;have V:=C.out w bR;have qX:(⟨A.toArray⟩:ByteArray).size+(⟨#[101]⟩:ByteArray).size≤9223372036854775807:=by
  rw[bsz,show(⟨#[101]⟩:ByteArray).size=1 from rfl];omega
 have eC:=qZ0 A [101];have qY:(⟨(A ++ [101]).toArray⟩:ByteArray).size+(⟨t.toArray⟩:ByteArray).size≤9223372036854775807:=by
  rw[bsz,bsz,kM0];have:=I.out;simp;omega
 have et:=qK0 d 1;have T:=qJ3 d 1;have fin:(⟨(A ++ [101]).toArray⟩:ByteArray)++⟨t.toArray⟩=⟨(exL d t).toArray⟩:=by
  rw[qZ0,List.append_assoc];unfold exL;rw[←HA.out];rfl
 by_cases H:1<d.length
 ·have F:(1:Int)<(d.length:Int):=ω;rw[List.drop_one] at T;have qJ:(⟨#[46]⟩:ByteArray).size+(⟨d.tail.toArray⟩:ByteArray).size≤9223372036854775807:=by
   rw[show(⟨#[46]⟩:ByteArray).size=1 from rfl,bsz,List.length_tail];omega
  have e1:=qZ0 [46] d.tail;have qK:(⟨(d.take 1).toArray⟩:ByteArray).size+(⟨(46 :: d.tail).toArray⟩:ByteArray).size≤9223372036854775807:=by
   rw[bsz,bsz,kG2,List.length_take,List.length_tail];omega
  have e2:(⟨(d.take 1).toArray⟩:ByteArray)++⟨(46 :: d.tail).toArray⟩=⟨A.toArray⟩:=by rw[qZ0,Y,kU6 H,List.drop_one]
  clear Y J H
  go_enter Tryz.func25,Tryz.ntmps25
  go_wp2_with fail;refine V.mono ?_;rintro r L ⟨rfl,u⟩;have D:Hid _:=u;clear V u
  go_wp2
  go_ret;exact⟨rfl,D.out⟩
 ·have F:¬ (1:Int)<(d.length:Int):=ω;have e2:d.take 1=A:=by rw[Y,kU5 H,List.append_nil]
  rw[e2] at et;clear Y J H T
  go_enter Tryz.func25,Tryz.ntmps25
  go_wp2_with fail;refine V.mono ?_;rintro r L ⟨rfl,u⟩;have D:Hid _:=u;clear V u
  go_wp2
  go_ret;exact⟨rfl,D.out⟩
def sgL (s:Bool) (t:List UInt8):List UInt8:=if s then 45 :: t else t
theorem qI6 (f:Nat) (b:Bool) (V:Value) (w:World)
  (u:∀ w,Ca 74 #[.float .f64 f] w fun e w'=>e=.returned (.tuple #[iV 1,.bool b])∧w'=w) :
  Ca 22 #[.float .f64 f,V] w fun r w'=>r=.returned (.string ⟨#[110,97,110]⟩)∧w'=w:=by
 go_enter Tryz.func22,Tryz.ntmps22
 go_wp2_with (first|(go_at_call 74;refine(u _).mono ?_;rintro e w' ⟨rfl,rfl⟩))
 go_ret;exact⟨rfl,rfl⟩
theorem qI7 (f:Nat) (b:Bool) (V:Value) (w:World)
  (u:∀ w,Ca 74 #[.float .f64 f] w fun e w'=>e=.returned (.tuple #[iV 2,.bool b])∧w'=w) :
  Ca 22 #[.float .f64 f,V] w fun r w'=>r=.returned (.string ⟨(sgL b [105,110,102]).toArray⟩)∧w'=w:=by
 have J:=qZ0 [45] [105,110,102];have Y:(⟨#[45]⟩:ByteArray).size+(⟨#[105,110,102]⟩:ByteArray).size≤9223372036854775807:=by
  rw[show(⟨#[45]⟩:ByteArray).size=1 from rfl,show(⟨#[105,110,102]⟩:ByteArray).size=3 from rfl];omega
 cases b
 ·go_enter Tryz.func22,Tryz.ntmps22
  go_wp2_with (first|(go_at_call 74;refine(u _).mono ?_;rintro e w' ⟨rfl,rfl⟩))
  go_ret;exact⟨rfl,rfl⟩
 ·go_enter Tryz.func22,Tryz.ntmps22
  go_wp2_with (first|(go_at_call 74;refine(u _).mono ?_;rintro e w' ⟨rfl,rfl⟩))
  go_ret;exact⟨rfl,rfl⟩
theorem qB2 (f J:Nat) (c:Int) (b:Bool) (H:Array Value) (t:List UInt8) (w:World) (W:¬ c=1) (T:¬ c=2) (L:t.length≤20000)
  (F:∀ w,Ca 74 #[.float .f64 f] w fun e w'=>e=.returned (.tuple #[iV c,.bool b])∧w'=w)
  (I:∀ args w,(callFunc J args).run Tryz.prog w=.ok (.enter J args) w)
  (Y:Ca J H w (Rq w (.string ⟨t.toArray⟩))) :
  Ca 22 #[.float .f64 f,.func (.func J) #[] H] w (Rq w (.string ⟨(sgL b t).toArray⟩)):=by
 have e1:=qZ0 [45] t;have C:(⟨#[45]⟩:ByteArray).size+(⟨t.toArray⟩:ByteArray).size≤9223372036854775807:=by
  rw[show(⟨#[45]⟩:ByteArray).size=1 from rfl,bsz];omega
 cases b
 ·go_enter Tryz.func22,Tryz.ntmps22
  go_wp2_with (first|(go_at_call 74;refine(F _).mono ?_;rintro e w' ⟨rfl,rfl⟩))
  refine Y.mono ?_;rintro r D ⟨rfl,u⟩;have V:Hid _:=u;clear Y u
  go_wp2
  go_ret;exact⟨rfl,V.out⟩
 ·go_enter Tryz.func22,Tryz.ntmps22
  go_wp2_with (first|(go_at_call 74;refine(F _).mono ?_;rintro e w' ⟨rfl,rfl⟩))
  refine Y.mono ?_;rintro r D ⟨rfl,u⟩;have V:Hid _:=u;clear Y u
  go_wp2
  go_ret;exact⟨rfl,V.out⟩
end Go.Proofs.YtfkaogdmlcdceaaGreatDoor
