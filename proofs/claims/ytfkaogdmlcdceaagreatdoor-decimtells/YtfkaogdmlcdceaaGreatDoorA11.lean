/- Own work: contracts of the program's functions, part 11: PV PV2 FR5 FR6 DC1 SB1 SB2 SB3 SC1 RY6 SC2 DE2 PV3 RY7 SD1 SD2 UA8 UA9 UB1 UB2 UB3 SB4 SB5 SH5 SB6 SH6 SH7 SH8 SH9 SI1 SI2 SI3 SI4 UB4 HX W46 W47 W48 RE2 RE5 RE6 RD2 L12 L15 SE1 SE2 SB7 SE3 SF1 SF2 SF3 SF4. -/
import Derived.Test.YtfkaogdmlcdceaaGreatDoorA10
import Derived.Test.YtfkaogdmlcdceaaGreatDoorA5
import Derived.Deep.MidRow
import Derived.Test.YtfkaogdmlcdceaaGreatDoorA6
import Derived.Test.YtfkaogdmlcdceaaGreatDoorA8
import Derived.Test.YtfkaogdmlcdceaaGreatDoorA4
import Derived.Test.YtfkaogdmlcdceaaGreatDoorA9
import Derived.Test.YtfkaogdmlcdceaaGreatDoorA7
import Derived.Test.YtfkaogdmlcdceaaGreatDoorA3
import Derived.Lib.ItoaNum

set_option maxHeartbeats 16000000
set_option maxRecDepth 200000
set_option linter.unusedVariables false
set_option linter.unusedSimpArgs false
namespace Go.Proofs.YtfkaogdmlcdceaaGreatDoor
open Go.RowKit
attribute [local go_sem] iV Nu
def vhas (o:Oper) (j:Nat):Bool:=o.after.any fun e=>e.on==j&&Region.binds .any e
theorem qT7 {o:Oper} {j:Nat} (h:vhas o j=true):∃ e ∈ o.after,e.on=j∧Region.binds .any e=true:=by
 unfold vhas at h;obtain⟨i,hi,u⟩:=Array.any_eq_true.1 h;rw[kB9,beq_iff_eq] at u;exact⟨_,Array.getElem_mem hi,u.1,u.2⟩
theorem qZ7 {P:Program} {Q:Exit→Act→World→Prop} {o:Oper} {K:Act→World→Prop} {a:Act} {w:World} {s:Tmp} {v:Value}
  (u:o.op=.move (.tmp s)) (Y:a.tmps[s]?=some v) (h:K (a.put o.dst v) w):o.wp P a w K Q:=by
 unfold Oper.wp;simp[execOp,u,qZ1 Y,Oper.upon,h]
theorem qX5 {P:Program} {Q:Exit→Act→World→Prop} {o:Oper} {K:Act→World→Prop} {a:Act} {w:World} {s:Tmp} {v:Value}
  (u:o.op=.assign (.tmp s)) (Y:a.tmps[s]?=some v) (h:K (a.put o.dst v) w):o.wp P a w K Q:=by
 unfold Oper.wp;simp[execOp,u,qZ1 Y,Oper.upon,h]
theorem qQ9 {P:Program} {Q:Exit→Act→World→Prop} {o:Oper} {K:Act→World→Prop} {a:Act} {w:World}
  {f:FuncId} {args:Array Operand} {Y:Array TypeId} (u:o.op=.call { callee:=.value (.func f),args:=args,argTypes:=Y }) {vs:Array Value}
  (H:∀ vs w,(callFunc f vs).run P w=.ok (.enter f vs) w) (J:args.map a.eval=vs) (h:Calls P f vs w fun r w'=>∃ v,r=.returned v∧K (a.put o.dst v) w'):o.wp P a w K Q:=by
 unfold Oper.wp;have e:(execOp a.eval o).run P w=.ok (.enter f vs) w:=by
  simp[execOp,u,resolve,Deferred.ofValue,Act.eval,invoke,J,H]
 rw[e,Oper.upon_enter];refine h.mono ?_;rintro r w' ⟨v,rfl,V⟩;exact V
theorem qZ6 {P:Program} {Q:Exit→Act→World→Prop} {o:Oper} {K:Act→World→Prop} {a:Act} {w w':World} {v:Value}
  (u:(execOp a.eval o).run P w=.ok (.value v) w') (h:K (a.put o.dst v) w'):o.wp P a w K Q:=by
 unfold Oper.wp;rw[u];exact h
def zK4 (P:World→Value→Prop):Prop:=∀ W W' A,Bw W W'→P W A→P W' A
def qP2:List (World→Value→Prop)→Prop
 | []=>True
 | P :: r=>zK4 P∧qP2 r
def vL (L:List (World→Value→Prop)) (j:Nat):World→Value→Prop:=L[j]?.getD (fun _ _=>False)
def dL (D:List (List Nat)) (j:Nat):List Nat:=D[j]?.getD []
def isV (x:Value):World→Value→Prop:=fun _ u=>u=x
theorem qQ2 (x:Value):zK4 (isV x):=fun _ _ _ _ h=>h
theorem qW7:∀ {L:List (World→Value→Prop)},qP2 L→∀ j,zK4 (vL L j)
 | [],_,j=>fun W Y A u h=>by simp[vL] at h
 | P :: r,hL,0=>hL.1
 | P :: r,hL,j+1=>by
  have:=qW7 hL.2 j
  exact this
theorem yY1 {P:Program} {Q:Exit→Act→World→Prop} {o:Oper} {K:Act→World→Prop} {a:Act} {w:World}
  {Y:TypeId} {s v:Tmp} (J:o.op=.store Y (.tmp s) (.tmp v)) {g:Nat} {u cs:Array Value}
  (H:a.tmps[s]?=some (.pointer (some ⟨g,0,none⟩))) (V:a.tmps[v]?=some (.agg cs)) (T:w.heap[g]?=some (.cells u Y (0,0))) (D:(P.info? Y).map (·.size)=some cs.size) (F:u.size=cs.size) (L:cs.all (·.oneCell')=true)
  (h:K (a.put o.dst undef) (w.setRow g cs)):o.wp P a w K Q:=by
 unfold Oper.wp;simp[execOp,J,qZ1 H,qZ1 V,Instr.storeAt,Instr.sureAddr,run_storeVar_row w g Y Y u cs T D F L,Result.andThen,Oper.upon,h]
end Go.Proofs.YtfkaogdmlcdceaaGreatDoor
namespace Go.Proofs.YtfkaogdmlcdceaaGreatDoor
open Go.RowKit Go.Fl64
attribute [local go_sem] iV Nu
theorem xY8 (g o:Nat) (s:Bool) (ao:Option Addr) (n Y:Nat) (e:Int) (w:World) (H:w.cell? ⟨g,o,none⟩=some (.bool s)) (V:w.cell? ⟨g,o+1,none⟩=some (.slice ao n Y)) (J:w.cell? ⟨g,o+2,none⟩=some (iV e)):(Instr.loadAt 50 (.pointer (some ⟨g,o,none⟩))).run Tryz.prog w=.ok (.agg (Nu s ao n Y e)) w :=
 run_loadAt_mid w g o 50 [.bool s,.slice ao n Y,iV e] _ (fun j v u=>by
  match j with
  | 0=>simp at u;subst u;exact H
  | 1=>simp at u;subst u;exact V
  | 2=>simp at u;subst u;exact J
  | k+3=>simp at u) Tryz.underlying50 rfl Tryz.info50
def isP (T:Bool×Nat×Int):World→Value→Prop:=fun w u=>PN w u T
theorem qX4 (T:Bool×Nat×Int):zK4 (isP T):=fun _ _ _ u h=>PN.later h u
def isF (T T':Bool×Nat×Int):World→Value→Prop:=fun w u=>Fv w u T T'
theorem zV7 (T Y:Bool×Nat×Int):zK4 (isF T Y):=fun _ _ _ u h=>Fv.later h u
theorem nabs {A k:Nat} (h:A<2^k):((A:Nat):Int).natAbs<2^k:=by rw[kN1];exact h
theorem xU7 {a b k l:Nat} (Y:a<2^k) (u:b<2^l):a*b<2^(k+l):=by rw[kN3];exact Nat.mul_lt_mul'' Y u
theorem paddN {a b p k:Nat} (V:a<2^k) (J:b<2^k) (Y:k<60000) (u:p≤60000):Op2 167 (un (a:Int) p) (un (b:Int) p) (un ((a+b:Nat):Int) p):=by
 have:=qE7 (p:=p) (nabs V) (nabs J) Y u
 rw[←Int.natCast_add] at this;exact this
theorem psubN {a b p k:Nat} (Y:a<2^k) (u:b≤a) (V:k<60000) (J:p≤60000):Op2 161 (un (a:Int) p) (un (b:Int) p) (un ((a - b:Nat):Int) p):=by
 have:=xJ5 (p:=p) (nabs Y) (nabs (kF7 u Y)) V J
 rw[←Int.natCast_sub u] at this;exact this
theorem yC5 (a:Nat) (t:Bool×Nat×Int) (w:World)
  (k:∀ W,Bw w W→Ca 87 #[.float .f64 a] W fun r w'=>∃ s ao n cap e,r=.returned (.tuple #[.agg (Nu s ao n cap e),iV 0])∧PN w' (.agg (Nu s ao n cap e)) t∧Bw W w') :
  Ca 32 #[.float .f64 a] w fun r w'=>OutA w t r w':=by
 obtain⟨W,hW⟩:=eE (w.alloc (.cells (Nu false none 0 0 0) 50));have L:Hid (Bw w W∧Hn W w.heap.size false none 0 0 0 50):=⟨by rw[hW];exact bR.alloc lR _,by rw[hW];exact kB7 _ _⟩
 have k1:=k W L.out.1;clear k
 go_enter Tryz.func32,Tryz.ntmps32
 go_wp2_with fail;rw[←hW];clear hW;refine k1.mono ?_;rintro r w1 ⟨C,V,I,u,J,rfl,hA,F⟩;obtain⟨T,Y⟩:=eE (w1.alloc (.cells (Nu C V I u J) 50));have H:Bw W T:=by rw[Y];exact F.alloc F.size _
 have D:Hid (PN T (.agg (Nu C V I u J)) t∧Bw w T∧Hn T w1.heap.size C V I u J 50∧Hn T w.heap.size false none 0 0 0 50) :=
  ⟨by rw[Y];exact hA.later (bR.alloc lR _),L.out.1.trans (H.mono L.out.1.size),by rw[Y];exact kB7 _ _,qQ0 L.out.2 H (qQ7 L.out.2)⟩
 clear k1 hA F H
 go_upto_region 2 with fail;rw[←Y];clear Y;generalize w1.heap.size=g1 at *;obtain⟨⟨a0,a1,a2⟩,-⟩:=qQ3 D.out.2.2.1;obtain⟨⟨x1,x2,x3⟩,x4,x5,x6⟩:=qQ3 D.out.2.2.2
 go_wp2;refine kB8 (kM2 rfl _ _ w.heap.size 50 (Nu C V I u J) (0,0) _ rfl (qX8 _ _ _ D.out.2.2.2) Tryz.underlying50 rfl Tryz.info50) rfl ?_;exact⟨_,_,_,_,_,rfl,qB4 D.out.1 D.out.2.2.2 _ _ _,qQ4 D.out.2.1 lR _ _ _⟩
-- GEN: one call of two numbers each, the error let go
theorem yC6 (na nb:Bool) (ua va:Option Addr) (un uc vn vc:Nat) (ea eb:Int) (t:Bool×Nat×Int) (w:World)
  (k:∀ W,Bw w W→Ca 167 #[.agg (Nu na ua un uc ea),.agg (Nu nb va vn vc eb)] W fun r w'=>∃ s ao n cap e,r=.returned (.tuple #[.agg (Nu s ao n cap e),iV 0])∧PN w' (.agg (Nu s ao n cap e)) t∧Bw W w') :
  Ca 98 #[.agg (Nu na ua un uc ea),.agg (Nu nb va vn vc eb)] w fun r w'=>OutA w t r w':=by
 obtain⟨W,hW⟩:=eE (((w.alloc (.cells (Nu na ua un uc ea) 50)).alloc (.cells (Nu nb va vn vc eb) 50)).alloc (.cells (Nu false none 0 0 0) 50));obtain⟨L,hB,hC,qQ,T⟩:=qK9 _ _ _ hW;obtain⟨⟨a0,a1,a2⟩,-⟩:=qQ3 L;obtain⟨⟨b0,b1,b2⟩,-⟩:=qQ3 hB;have I:Hid _:=And.intro T hC;have k1:=k W I.out.1;clear k L hB hC T qQ;rw[hW] at a0 a1 a2 b0 b1 b2
 go_enter Tryz.func98,Tryz.ntmps98
 go_wp2_with fail;rw[←hW];clear hW a0 a1 a2 b0 b1 b2;refine k1.mono ?_;rintro r w1 ⟨s1,V,n1,u,J,rfl,L,F⟩;obtain⟨C,Y⟩:=eE (w1.alloc (.cells (Nu s1 V n1 u J) 50));have H:Bw W C:=by rw[Y];exact F.alloc F.size _
 have D:Hid (PN C (.agg (Nu s1 V n1 u J)) t∧Bw w C∧Hn C w1.heap.size s1 V n1 u J 50∧Hn C (w.heap.size+1+1) false none 0 0 0 50) :=
  ⟨by rw[Y];exact L.later (bR.alloc lR _),I.out.1.trans (H.mono I.out.1.size),by rw[Y];exact kB7 _ _,qQ0 I.out.2 H (qQ7 I.out.2)⟩
 clear k1 L F H
 go_upto_region 2 with fail;rw[←Y];clear Y;generalize w1.heap.size=g1 at *;obtain⟨⟨c0,c1,c2⟩,-⟩:=qQ3 D.out.2.2.1;obtain⟨⟨x1,x2,x3⟩,x4,x5,x6⟩:=qQ3 D.out.2.2.2
 go_wp2;refine kB8 (kM2 rfl _ _ (w.heap.size+1+1) 50 (Nu s1 V n1 u J) (0,0) _ rfl (qX8 _ _ _ D.out.2.2.2) Tryz.underlying50 rfl Tryz.info50) rfl ?_;exact⟨_,_,_,_,_,rfl,qB4 D.out.1 D.out.2.2.2 _ _ _,qQ4 D.out.2.1 ω _ _ _⟩
theorem yW5 (na nb:Bool) (ua va:Option Addr) (un uc vn vc:Nat) (ea eb:Int) (t:Bool×Nat×Int) (w:World)
  (k:∀ W,Bw w W→Ca 161 #[.agg (Nu na ua un uc ea),.agg (Nu nb va vn vc eb)] W fun r w'=>∃ s ao n cap e,r=.returned (.tuple #[.agg (Nu s ao n cap e),iV 0])∧PN w' (.agg (Nu s ao n cap e)) t∧Bw W w') :
  Ca 93 #[.agg (Nu na ua un uc ea),.agg (Nu nb va vn vc eb)] w fun r w'=>OutA w t r w':=by
 obtain⟨W,hW⟩:=eE (((w.alloc (.cells (Nu na ua un uc ea) 50)).alloc (.cells (Nu nb va vn vc eb) 50)).alloc (.cells (Nu false none 0 0 0) 50));obtain⟨L,hB,hC,qQ,T⟩:=qK9 _ _ _ hW;obtain⟨⟨a0,a1,a2⟩,-⟩:=qQ3 L;obtain⟨⟨b0,b1,b2⟩,-⟩:=qQ3 hB;have I:Hid _:=And.intro T hC;have k1:=k W I.out.1;clear k L hB hC T qQ;rw[hW] at a0 a1 a2 b0 b1 b2
 go_enter Tryz.func93,Tryz.ntmps93
 go_wp2_with fail;rw[←hW];clear hW a0 a1 a2 b0 b1 b2;refine k1.mono ?_;rintro r w1 ⟨s1,V,n1,u,J,rfl,L,F⟩;obtain⟨C,Y⟩:=eE (w1.alloc (.cells (Nu s1 V n1 u J) 50));have H:Bw W C:=by rw[Y];exact F.alloc F.size _
 have D:Hid (PN C (.agg (Nu s1 V n1 u J)) t∧Bw w C∧Hn C w1.heap.size s1 V n1 u J 50∧Hn C (w.heap.size+1+1) false none 0 0 0 50) :=
  ⟨by rw[Y];exact L.later (bR.alloc lR _),I.out.1.trans (H.mono I.out.1.size),by rw[Y];exact kB7 _ _,qQ0 I.out.2 H (qQ7 I.out.2)⟩
 clear k1 L F H
 go_upto_region 2 with fail;rw[←Y];clear Y;generalize w1.heap.size=g1 at *;obtain⟨⟨c0,c1,c2⟩,-⟩:=qQ3 D.out.2.2.1;obtain⟨⟨x1,x2,x3⟩,x4,x5,x6⟩:=qQ3 D.out.2.2.2
 go_wp2;refine kB8 (kM2 rfl _ _ (w.heap.size+1+1) 50 (Nu s1 V n1 u J) (0,0) _ rfl (qX8 _ _ _ D.out.2.2.2) Tryz.underlying50 rfl Tryz.info50) rfl ?_;exact⟨_,_,_,_,_,rfl,qB4 D.out.1 D.out.2.2.2 _ _ _,qQ4 D.out.2.1 ω _ _ _⟩
theorem zK6 (na nb:Bool) (ua va:Option Addr) (un uc vn vc:Nat) (ea eb:Int) (t:Bool×Nat×Int) (w:World)
  (k:∀ W,Bw w W→Ca 162 #[.agg (Nu na ua un uc ea),.agg (Nu nb va vn vc eb)] W fun r w'=>∃ s ao n cap e,r=.returned (.tuple #[.agg (Nu s ao n cap e),iV 0])∧PN w' (.agg (Nu s ao n cap e)) t∧Bw W w') :
  Ca 94 #[.agg (Nu na ua un uc ea),.agg (Nu nb va vn vc eb)] w fun r w'=>OutA w t r w':=by
 obtain⟨W,hW⟩:=eE (((w.alloc (.cells (Nu na ua un uc ea) 50)).alloc (.cells (Nu nb va vn vc eb) 50)).alloc (.cells (Nu false none 0 0 0) 50));obtain⟨L,hB,hC,qQ,T⟩:=qK9 _ _ _ hW;obtain⟨⟨a0,a1,a2⟩,-⟩:=qQ3 L;obtain⟨⟨b0,b1,b2⟩,-⟩:=qQ3 hB;have I:Hid _:=And.intro T hC;have k1:=k W I.out.1;clear k L hB hC T qQ;rw[hW] at a0 a1 a2 b0 b1 b2
 go_enter Tryz.func94,Tryz.ntmps94
 go_wp2_with fail;rw[←hW];clear hW a0 a1 a2 b0 b1 b2;refine k1.mono ?_;rintro r w1 ⟨s1,V,n1,u,J,rfl,L,F⟩;obtain⟨C,Y⟩:=eE (w1.alloc (.cells (Nu s1 V n1 u J) 50));have H:Bw W C:=by rw[Y];exact F.alloc F.size _
 have D:Hid (PN C (.agg (Nu s1 V n1 u J)) t∧Bw w C∧Hn C w1.heap.size s1 V n1 u J 50∧Hn C (w.heap.size+1+1) false none 0 0 0 50) :=
  ⟨by rw[Y];exact L.later (bR.alloc lR _),I.out.1.trans (H.mono I.out.1.size),by rw[Y];exact kB7 _ _,qQ0 I.out.2 H (qQ7 I.out.2)⟩
 clear k1 L F H
 go_upto_region 2 with fail;rw[←Y];clear Y;generalize w1.heap.size=g1 at *;obtain⟨⟨c0,c1,c2⟩,-⟩:=qQ3 D.out.2.2.1;obtain⟨⟨x1,x2,x3⟩,x4,x5,x6⟩:=qQ3 D.out.2.2.2
 go_wp2;refine kB8 (kM2 rfl _ _ (w.heap.size+1+1) 50 (Nu s1 V n1 u J) (0,0) _ rfl (qX8 _ _ _ D.out.2.2.2) Tryz.underlying50 rfl Tryz.info50) rfl ?_;exact⟨_,_,_,_,_,rfl,qB4 D.out.1 D.out.2.2.2 _ _ _,qQ4 D.out.2.1 ω _ _ _⟩
theorem qM1 {F H t3:Bool×Nat×Int} (h:Op2 167 F H t3) {X Y:Value} {w:World} (I:Tab32 w) (T:PN w X F) (D:PN w Y H):Ca 98 #[X,Y] w fun r w'=>OutA w t3 r w':=by
 obtain⟨s,ao,n,cap,e,rfl⟩:=T.shape;obtain⟨L,V,C,u,e',rfl⟩:=D.shape;exact yC6 s L ao V n cap C u e e' t3 w fun W J=>h W _ _ (I.later J) (T.later J) (D.later J)
theorem yF7 {F H t3:Bool×Nat×Int} (h:Op2 161 F H t3) {X Y:Value} {w:World} (I:Tab32 w) (T:PN w X F) (D:PN w Y H):Ca 93 #[X,Y] w fun r w'=>OutA w t3 r w':=by
 obtain⟨s,ao,n,cap,e,rfl⟩:=T.shape;obtain⟨L,V,C,u,e',rfl⟩:=D.shape;exact yW5 s L ao V n cap C u e e' t3 w fun W J=>h W _ _ (I.later J) (T.later J) (D.later J)
theorem qO0 {F H t3:Bool×Nat×Int} (h:Op2 162 F H t3) {X Y:Value} {w:World} (I:Tab32 w) (T:PN w X F) (D:PN w Y H):Ca 94 #[X,Y] w fun r w'=>OutA w t3 r w':=by
 obtain⟨s,ao,n,cap,e,rfl⟩:=T.shape;obtain⟨L,V,C,u,e',rfl⟩:=D.shape;exact zK6 s L ao V n cap C u e e' t3 w fun W J=>h W _ _ (I.later J) (T.later J) (D.later J)
def rtK (t1 t2:Bool×Nat×Int):Nat:=(max 0 (64+(bl t2.2.1:Int) - (bl t1.2.1:Int))).toNat
def rtF (t1 t2:Bool×Nat×Int) (m:Int):Nat:=tfF (t1.1 != t2.1) (decide (t1.2.1*2^rtK t1 t2 % t2.2.1=0)) (t1.2.1*2^rtK t1 t2 / t2.2.1) (t1.2.2 - t2.2.2 - rtK t1 t2) m
theorem xC7 {J u:Bool×Nat×Int} {X Y:Value} {m:Int} {w:World} (hT:Tab32 w) (L:Ok J) (T:Ok u) (h1:PN w X J) (h2:PN w Y u) (I:J.2.1≠0) (D:u.2.1≠0) (hm:1≤m∧m≤3) :
  Ca 125 #[X,Y,iV m] w (Rq w (.tuple #[.float .f64 (rtF J u m),iV 0])):=by
 obtain⟨pa,pc,rfl,C⟩:=h1;obtain⟨qa,qc,rfl,W⟩:=h2;have f1:=L.facts;have f2:=T.facts;have bx:=qY3 J.2.1;have qQ:=qY3 u.2.1;have F:((dlen J.2.1:Int)==0)=false:=by
  have:dlen J.2.1≠0:=fun e=>I (qQ8.1 e)
  simp;omega
 have H:((dlen u.2.1:Int)==0)=false:=by
  have:dlen u.2.1≠0:=fun e=>D (qQ8.1 e)
  simp;omega
 have hk:max 0 (64+(bl u.2.1:Int) - (bl J.2.1:Int))=(rtK J u:Int):=by unfold rtK;omega
 refine yP4 J.1 u.1 pa qa _ pc _ qc _ _ (rtK J u) (bl J.2.1) (bl u.2.1) J.2.2 u.2.2 m (J.1 != u.1) w (rfl:(!(J.1==u.1))=(J.1 != u.1)) hT C W ω ω D ω ω ω ω ω rfl rfl ω ω hk ω F H (fun W' g V hg=>?_);have:=qO9 hg (C.later V) (W.later V) ω ω
 rw[show okN J.1 (dlen J.2.1) J.2.1 J.2.2=true from L,show okN u.1 (dlen u.2.1) u.2.1 u.2.2=true from T] at this;exact this
end Go.Proofs.YtfkaogdmlcdceaaGreatDoor
namespace Go.Proofs.YtfkaogdmlcdceaaGreatDoor
open Go.RowKit Go.Fl64
open Ie
attribute [local go_sem] iV Nu
theorem zM8 {x k:Nat} (h:x≠0):bl (x*2^k)=bl x+k:=by
 have Y:=qG2 x;have u:=qD1 h;have J:=zK0 h;have a:bl (x*2^k)≤bl x+k:=(qJ4 _ _).2 (by rw[kN3];exact kM4 Y (kF3 k))
 have b:bl x+k - 1+1≤bl (x*2^k):=xN4.2 (by rw[show bl x+k - 1=bl x - 1+k by omega,kN3];exact kF5 _ u)
 omega
theorem zG7 {N y:Nat} (u:y≠0):bl N≤bl (N / y)+bl y:=by
 refine(qJ4 _ _).2 ?_
 have V:=Nat.lt_mul_div_succ N (kB0 u);have J:=qG2 (N / y);have Y:=qG2 y;rw[kN3,kN4 (2^bl (N / y))];exact kF6 V (Nat.mul_le_mul (kM8 Y) J)
theorem qI1 {N y:Nat} (u:y≠0) (Y:N / y≠0):bl (N / y)+bl y≤bl N+1:=by
 have F:=qD1 Y;have H:=qD1 u;have L:=zK0 Y;have T:=zK0 u;have V:2^(bl (N / y) - 1+(bl y - 1))≤N:=by
  rw[kN3];exact kF8 (Nat.mul_le_mul F H) (kM9 N y)
 have J:=kF7 V (qG2 N);have D:=(Nat.pow_lt_pow_iff_right (by omega:1<2)).1 J
 omega
theorem yH5:bl 1=1:=by rfl
theorem yZ3 {W:World} {g:Nat} {s:Bool} {e m:Int} (h:At W (some ⟨g,0,none⟩) 1 1) (Y : -4000000≤e) (u:e≤4000000) (J:1≤m∧m≤3) :
  Ca 151 #[.agg (Nu s (some ⟨g,0,none⟩) 1 1 e),iV m] W (Rq W (.float .f64 (tfF s true 1 e m))):=by
 have:=rto (neg:=s) (uc:=1) (x:=1) (ea:=e) (m:=m) (by rw[qV0];exact h) (by rw[qV0];exact kH8 _) rfl (by rw[qV0];omega) Y u J
 rw[←qF5 J,qV0] at this;exact this
theorem yM6 {na nb:Bool} {ua va:Option Addr} {uc vc x y k:Nat} {ea eb m:Int} {w:World} (h1:Arg w ua (dlen x) uc x) (h2:Arg w va (dlen y) vc y) (hx:dlen x≤2048) (hy:dlen y≤2048) (ha : -65536≤ea∧ea≤65536) (hb : -65536≤eb∧eb≤65536) (V:x≠0) (u:y≠0) (F:1≤m∧m≤3) (hk:max 0 (64+(bl y:Int) - (bl x:Int))=(k:Int)) :
  Ca 152 #[.agg (Nu na ua (dlen x) uc ea),.agg (Nu nb va (dlen y) vc eb),iV m] w (Rq w (.float .f64 (tfF (na != nb) (decide (x*2^k % y=0)) (x*2^k / y) (ea - eb - k) m))):=by
 have bx:=qY3 x;have qG:=qY3 y;have qH:=zK0 V;have qU:=zK0 u;have hN:bl (x*2^k)=bl x+k:=zM8 V;have q1:=zG7 (N:=x*2^k) u;have J:64≤bl (x*2^k / y):=ω;have qX:x*2^k / y≠0:=fun e=>by rw[e] at J;simp[bl] at J
 have q2:=qI1 u qX;have C:((dlen x:Int)==0)=false:=qY8 (n:=0) V;have T:=fun W (H:Bw w W)=>zW7 (neg:=na) (cap:=uc) (e:=ea) (h1.later H).at_ V ω ⟨ω,ω⟩;have D:=fun W (H:Bw w W)=>zW7 (neg:=nb) (cap:=vc) (e:=eb) (h2.later H).at_ u ω ⟨ω,ω⟩;obtain⟨pl,L⟩:∃ pl:Int,min (max (60 - ((bl x:Int)+ea)+((bl y:Int)+eb)) (-1100)) 1100=pl:=⟨_,rfl⟩;by_cases qJ:1100<(bl x:Int)+ea - ((bl y:Int)+eb)
 ·rw[xD8 (s:=na != nb) (y:=1) (f:=1100) F (.inl J) ω ω (by rw[yH5];omega)]
  exact qO4 na nb ua va _ uc _ vc _ ea eb m _ _ pl (na != nb) w rfl C ω ω ω ω L ω ω _ (.inl ⟨qJ,rfl⟩) T D (fun g W H hA=>yZ3 hA ω ω F)
 ·by_cases qK:(bl x:Int)+ea - ((bl y:Int)+eb) < -1200
  ·rw[zF3 (s:=na != nb) (y:=1) (f := -1200) F (.inl J) ω ω (by rw[yH5];omega)]
   exact qO4 na nb ua va _ uc _ vc _ ea eb m _ _ pl (na != nb) w rfl C ω ω ω ω L ω ω _ (.inr ⟨qK,rfl⟩) T D (fun g W H hA=>yZ3 hA ω ω F)
  ·have hP : -1100≤pl∧pl≤1100:=ω;obtain⟨X,hX⟩:∃ X,ovX x ea eb (pl+60)=X:=⟨_,rfl⟩;obtain⟨Y,hY⟩:∃ Y,ovY y ea eb (pl+60)=Y:=⟨_,rfl⟩;have bX:(bl X:Int)=bl x+(ea+(pl+60) - min (ea+(pl+60)) eb):=by rw[←hX];unfold ovX;rw[zM8 V];omega
   have bY:(bl Y:Int)=bl y+(eb - min (ea+(pl+60)) eb):=by rw[←hY];unfold ovY;rw[zM8 u];omega
   have qV:X≠0:=by rw[←hX];unfold ovX;exact Nat.mul_ne_zero V (Nat.pos_iff_ne_zero.1 (kF3 _))
   have I:Y≠0:=by rw[←hY];unfold ovY;exact Nat.mul_ne_zero u (Nat.pos_iff_ne_zero.1 (kF3 _))
   have r1:=zG7 (N:=X) I;have qY:dlen (X / Y)≤20000:=by
    refine kF8 (qZ5 (kF9 X Y)) ?_;rw[←hX];unfold ovX;have:=qK2 (x:=x) (k:=(ea+(pl+60) - min (ea+(pl+60)) eb).toNat) rfl
    omega
   have kO:=fun W (H:Bw w W)=>xT9 (na:=na) (nb:=nb) (ea:=ea) (eb:=eb) (place:=pl+60) (h1.later H).at_ h1.le (h2.later H).at_ h2.le u ω ω ⟨ω,ω⟩ ⟨ω,ω⟩ ⟨ω,ω⟩ hX hY;have qQ:decide (X % Y=0)=true→X / Y≠0:=fun h e=>by
    have h':=of_decide_eq_true h;have:=Nat.div_add_mod X Y
    rw[e,h',Nat.mul_zero] at this;exact qV this.symm
   have qZ:tfF (na != nb) (decide (x*2^k % y=0)) (x*2^k / y) (ea - eb - k) m=if decide (X % Y=0)then tfF (na != nb) true (X / Y) (-(pl+60)) m else tfF (na != nb) true (2*(X / Y)+1) (-(pl+60+1)) m:=by
    by_cases hs:64≤bl (X / Y)
    ·have re:=zS5 (s:=na != nb) (x:=x) (y:=y) (k:=k) (ea:=ea) (eb:=eb) (P:=pl+60) F u J (by rw[hX,hY];exact hs)
     rw[hX,hY] at re;rw[re];cases decide (X % Y=0)
     ·rw[kU5 δ,qN0 hs,show -(pl+60) - 1 = -(pl+60+1) by omega]
     ·rw[kU6 rfl]
    ·have hd:(bl x:Int)+ea - ((bl y:Int)+eb) < -1096:=ω;cases hdc:decide (X % Y=0)
     ·rw[kU5 δ];refine zF3 F (.inl J) ω ω ?_;by_cases hz:X / Y=0
      ·rw[hz,Nat.mul_zero,kH6,yH5];omega
      ·have r2:=qI1 I hz;rw[zT7 hz];omega
     ·rw[kU6 rfl];have hz:=qQ hdc;have r2:=qI1 I hz;exact zF3 F (.inl J) hz ω ω
   rw[qZ];refine zW4 na nb ua va _ uc _ vc _ ea eb m _ _ pl (na != nb) _ (decide (X % Y=0)) w C ω ω ω ω L hP.1 hP.2 ω ω T D kO (fun W A H hN=>?_);exact yP0 hN qQ qY ω ω F
end Go.Proofs.YtfkaogdmlcdceaaGreatDoor
namespace Go.Proofs.YtfkaogdmlcdceaaGreatDoor
open Go.RowKit Go.Fl64
attribute [local go_sem] iV Nu
theorem qW8 {a:Int} {p:Nat} (h:a≠0):(un a p).1=decide (a<0)∧(un a p).2.1*2^tz a.natAbs=a.natAbs∧(un a p).2.2 = -(p:Int)+tz a.natAbs:=by
 have u:a.natAbs≠0:=ω;unfold un cn;rw[kU5 u];refine⟨rfl,?_,rfl⟩
 have Y:=(qX0 a.natAbs a.natAbs lR u).1;rw[kN4];exact Y
theorem qP6 (p:Nat):un 0 p=(false,0,0):=by unfold un cn;rw[kU6 δ]
theorem kJ0 {x:Nat} (u:x≠0):1≤bl x:=by unfold bl;rw[kU5 u];omega
theorem qI0 {x k:Nat} (h:x≠0):bl (x*2^k)=bl x+k:=by
 have V:=qG2 x;have J:=qD1 h;have F:=kJ0 h;have a:bl (x*2^k)≤bl x+k:=(qJ4 _ _).2 (by rw[kN3];exact kM4 V (kF3 k))
 have b:bl x+k - 1<bl (x*2^k):=by
  apply Decidable.byContradiction
  intro H;have Y:=qG2 (x*2^k);have u:x*2^k<2^(bl x+k - 1):=kF6 Y (kF4 δ ω);rw[show bl x+k - 1=bl x - 1+k by omega,kN3] at u
  have:=kF5 (2^k) J
  omega
 omega
theorem xO {a:Int} {p D:Nat} {X:Value} {w:World} (F:a.natAbs<2^D) (L:D≤90000) (hp:p≤90000) (a0:a≠0) (C:DN w X (un a p)) :
  Ca 44 #[X] w fun u w'=>u=.returned (iV ((bl a.natAbs:Int) - p))∧Bw w w':=by
 obtain⟨ao,cap,rfl,I⟩:=C;have ea:=un_e (p:=p) F;have la:=qV9 (qH6 (p:=p) F);have Y:(un a p).2.1≠0:=fun h=>a0 (qU2.2.1 h);obtain⟨T,V,J⟩:=qW8 (a:=a) (p:=p) a0;refine(zW7 (neg:=(un a p).1) I.at_ Y ω ⟨ω,ω⟩).mono ?_
 rintro u w' ⟨rfl,W⟩;refine⟨?_,W⟩
 have H:bl a.natAbs=bl (un a p).2.1+tz a.natAbs:=by
  generalize tz a.natAbs=t at *;rw[←V];exact qI0 Y
 rw[H,J];congr 2
 omega
end Go.Proofs.YtfkaogdmlcdceaaGreatDoor
namespace Go.Proofs.YtfkaogdmlcdceaaGreatDoor
open Go.RowKit
attribute [local go_sem] iV Nu
def yN3 (m:Nat) (SL:List Nat) (dep:Nat→List Nat) (i:Nat) (o:Oper):Bool :=
 o.after.all (fun e=>decide (e.on<i))&&o.guard.isNone&&(i==m||o.dst==some (SL.getD i 0))&&((if i==m then List.range m else dep i).all fun j=>decide (j<m)&&vhas o j)
def zI4 (ops:Array Oper) (m:Nat) (SL:List Nat) (dep:Nat→List Nat):Bool :=
 ops.size==m+1&&(List.range (m+1)).all fun i=>match ops[i]? with|some o=>yN3 m SL dep i o|none=>false
theorem qB7 {u:Array Oper} {m:Nat} {H:List Nat} {Y:Nat→List Nat} (h:zI4 u m H Y=true) {i:Nat} {o:Oper} (J:u[i]?=some o):i<m+1∧yN3 m H Y i o=true:=by
 unfold zI4 at h;rw[kB9,beq_iff_eq] at h;have hi:i<m+1:=by have:=(Array.getElem?_eq_some_iff.1 J).1;omega
 have V:=List.all_eq_true.1 h.2 i (List.mem_range.2 hi);simp only[J] at V;exact⟨hi,V⟩
theorem qG8 {m:Nat} {J:List Nat} {Y:Nat→List Nat} {i:Nat} {o:Oper} (h:yN3 m J Y i o=true) :
  (∀ e ∈ o.after,e.on<i)∧o.guard=none∧(i<m→o.dst=some (J.getD i 0))∧∀ j ∈ (if i==m then List.range m else Y i),j<m∧∃ e ∈ o.after,e.on=j∧Region.binds .any e=true:=by
 unfold yN3 at h;rw[kB9,kB9,kB9] at h;obtain⟨⟨⟨T,D⟩,u⟩,F⟩:=h;refine⟨fun e H=>of_decide_eq_true (Array.all_eq_true_iff_forall_mem.1 T e H),Option.isNone_iff_eq_none.1 D,fun hi=>?_,fun j V=>?_⟩
 ·rw[Bool.or_eq_true] at u;rcases u with u|u
  ·rw[beq_iff_eq] at u;omega
  ·simpa using u
 ·have:=List.all_eq_true.1 F j V
  rw[kB9] at this;exact⟨of_decide_eq_true this.1,qT7 this.2⟩
theorem zF0 {P:Program} {J:Array Oper} {Q:Exit→Act→World→Prop} {id:Nat} (hm:P.follows .mixedOrders=true) (m:Nat) (H:List Nat) (qQ:Nat→List Nat)
  (W0:World) (a0:Act) (V:Nat→World→Value→Prop) (Y:zI4 J m H qQ=true)
  (qU:∀ j w w' u,Bw w w'→V j w u→V j w' u) (T:H.length=m∧H.Nodup∧∀ s ∈ H,s<a0.tmps.size)
  (hA:∀ j,j<m→∀ o,J[j]?=some o→∀ (a:Act) (w:World),Bw W0 w→(∀ s:Nat,H.contains s=false→a.tmps[s]?=a0.tmps[s]?) →
   (∀ j' ∈ qQ j,∃ u,a.tmps[H.getD j' 0]?=some u∧V j' w u)→o.wp P a w (fun a' w'=>∃ u,a'=a.put o.dst u∧V j w' u∧Bw w w') Q)
  (hL:∀ o,J[m]?=some o→∀ (u:Nat→Value) (w:World),Bw W0 w→(∀ j,j<m→V j w (u j)) →
   o.wp P (putL a0 ((List.range m).map (fun j=>(H.getD j 0,u j)))) w (fun a' w'=>Q .normal a' w') Q) :
  (Code.region id J true).wp P Q a0 W0:=by
 have qY:J.size=m+1:=by
  unfold zI4 at Y;rw[kB9,beq_iff_eq] at Y;exact Y.1
 have L:∀ j,j<m→H.getD j 0 ∈ H:=fun j D=>by
  have h1:j<H.length:=by rw[T.1];exact D
  rw[List.getD_eq_getElem?_getD,List.getElem?_eq_getElem h1];exact List.getElem_mem h1
 have W:∀ i i',i<m→i'<m→H.getD i 0=H.getD i' 0→i=i':=fun i i' h1 C h=>by
  have g1:i<H.length:=by rw[T.1];exact h1
  have g2:i'<H.length:=by rw[T.1];exact C
  rw[List.getD_eq_getElem?_getD,List.getD_eq_getElem?_getD,List.getElem?_eq_getElem g1,List.getElem?_eq_getElem g2] at h;exact(List.getElem_inj T.2.1).1 h
 have qZ:∀ {s:Nat},H.contains s=false→∀ j,j<m→s≠H.getD j 0:=fun {s} h j D e=>by
  have C:=L j D;rw[←e] at C;have:H.contains s=true:=by simpa using C
  rw[h] at this;cases this
 refine zB6 hm m (fun j=>H.getD j 0) qQ W0 a0 V qY (fun i o F=>(qG8 (qB7 Y F).2).1) qU ?_ ?_ ?_ (fun j D=>T.2.2 _ (L j D)) W ?_
 ·intro j D j' qV;obtain⟨o,F⟩:∃ o,J[j]?=some o:=⟨J[j]' ω,Array.getElem?_eq_getElem ω⟩;have h4:=(qG8 (qB7 Y F).2).2.2.2 j' (by rw[kU5 (by rw[beq_iff_eq];omega)];exact qV)
  refine⟨h4.1,fun o' qK=>?_⟩
  obtain rfl:o=o':=kF0 (F.symm.trans qK);exact h4.2
 ·intro j D a w hb I hd;obtain⟨o,F⟩:∃ o,J[j]?=some o:=⟨J[j]' ω,Array.getElem?_eq_getElem ω⟩;obtain⟨-,C,h3,-⟩:=qG8 (qB7 Y F).2;refine qV5 F C ?_;have h5:=hA j D o F a w hb (fun s hs=>I s (qZ hs)) hd;rw[h3 D] at h5;exact h5
 ·intro o F j D;exact((qG8 (qB7 Y F).2).2.2.2 j (by rw[kU6 (by rw[beq_iff_eq])];exact List.mem_range.2 D)).2
 ·intro u a w hb hu hs hd I;obtain⟨o,F⟩:∃ o,J[m]?=some o:=⟨J[m]' ω,Array.getElem?_eq_getElem ω⟩;obtain⟨-,C,-,-⟩:=qG8 (qB7 Y F).2;refine qV5 F C ?_;have q1:((List.range m).map (fun j=>((H.getD j 0,u j):Tmp×Value))).map (fun p:Tmp×Value=>p.1)=(List.range m).map (fun j=>H.getD j 0):=by simp[Function.comp_def]
  have ha:=zK2 (a:=a) (a0:=a0) (l:=(List.range m).map (fun j=>((H.getD j 0,u j):Tmp×Value))) (by
    rw[q1];refine List.pairwise_map.2 ((List.nodup_range (n:=m)).imp_of_mem ?_);intro x y hx hy qJ he;exact qJ (W x y (List.mem_range.1 hx) (List.mem_range.1 hy) he)) hs hd (by
    intro p hp;obtain⟨i,hi,rfl⟩:=List.mem_map.1 hp;exact(hu i (List.mem_range.1 hi)).1) (fun s qX=>I s (fun i hi he=>qX (List.mem_map.2 ⟨_,List.mem_map.2 ⟨i,List.mem_range.2 hi,rfl⟩,he.symm⟩)))
  rw[ha];exact hL o F u w hb (fun j D=>(hu j D).2)
theorem qW3 {P:Program} {Y:Array Oper} {Q:Exit→Act→World→Prop} {I:Nat} (hm:P.follows .mixedOrders=true) (m:Nat) (J:List Nat) (D:List (List Nat))
  (H:World) (a0:Act) (L:List (World→Value→Prop)) (V:zI4 Y m J (dL D)=true)
  (T:qP2 L) (F:J.length=m∧J.Nodup∧∀ s ∈ J,s<a0.tmps.size)
  (hA:∀ j,j<m→∀ o,Y[j]?=some o→∀ (a:Act) (w:World),Bw H w→(∀ s:Nat,J.contains s=false→a.tmps[s]?=a0.tmps[s]?) →
   (∀ C ∈ dL D j,∃ u,a.tmps[J.getD C 0]?=some u∧vL L C w u)→o.wp P a w (fun W w'=>∃ u,W=a.put o.dst u∧vL L j w' u∧Bw w w') Q)
  (hL:∀ o,Y[m]?=some o→∀ (u:Nat→Value) (w:World),Bw H w→(∀ j,j<m→vL L j w (u j)) →
   o.wp P (putL a0 ((List.range m).map (fun j=>(J.getD j 0,u j)))) w (fun W w'=>Q .normal W w') Q) :
  (Code.region I Y true).wp P Q a0 H :=
 zF0 hm m J (dL D) H a0 (vL L) V (fun j w w' u hb h=>qW7 T j w w' u hb h) F hA hL
end Go.Proofs.YtfkaogdmlcdceaaGreatDoor
namespace Go.Proofs.YtfkaogdmlcdceaaGreatDoor
open Go.RowKit Go.Fl64
attribute [local go_sem] iV Nu
theorem zI6 {a:Nat} (u:a<18446744073709551616):(FloatKind.f64.format.order a 0 != some Ordering.eq) = !decide (mag a=0):=by
 have h:(FloatKind.f64.format.order a 0==some Ordering.eq)=decide (mag a=0):=by
  rw[qA0 a 0 u δ];have nb:qY9 0=false:=by decide
  unfold Fl64.eq;rw[nb];have Y:stp 0=0:=by decide
  rw[Y];by_cases h:mag a=0
  ·have:stp a=0:=by unfold stp sgn;rw[h];simp
   have na:qY9 a=false:=by unfold qY9;simp;omega
   simp[this,h,na]
  ·have:stp a≠0:=by unfold stp sgn;split <;> omega
   simp[this,h]
 rw[←h];rfl
end Go.Proofs.YtfkaogdmlcdceaaGreatDoor
namespace Go.Proofs.YtfkaogdmlcdceaaGreatDoor
open Go.RowKit
attribute [local go_sem] iV Nu
theorem pSign_no (na:Bool) (ua:Option Addr) (un uc:Nat) (ea:Int) (w:World)
  (J:∀ W g,Bw w W→Hn W g na ua un uc ea 50→Ca 128 #[.slice (some ⟨g,0,none⟩) 1 1] W (Rq W (.bool false))) :
  Ca 89 #[.agg (Nu na ua un uc ea)] w (Rq w (iV 0)):=by
 obtain⟨W,F⟩:=eE (w.alloc (.cells (Nu na ua un uc ea) 50));have u:Bw w W:=by rw[F];exact bR.alloc lR _
 have Y:W.heap.size=w.heap.size+1:=by rw[F];simp
 have V:Hn W w.heap.size na ua un uc ea 50:=by rw[F];exact kB7 _ _
 have k1:=J (W.alloc (.cells (Nu na ua un uc ea) 50)) (w.heap.size+1) (u.alloc u.size _) (by rw[←Y];exact kB7 _ _)
 have T:Hid _:=aI3 u Y V;clear u Y V J
 go_enter Tryz.func89,Tryz.ntmps89
 go_wp2_with fail;rw[←F];clear F;refine k1.mono ?_;rintro r C ⟨rfl,H⟩;have D:Hid (Bw W C):=((kH9 W.heap.size W).alloc lR _).trans (H.mono (by simp))
 clear k1 H;obtain⟨⟨x0,x1,I⟩,-⟩:=qQ3 (qQ0 T.out.2.2 D.out (by have:=T.out.2.1;omega))
 have L:Hid _:=T.out.1.trans (D.out.mono T.out.1.size)
 go_wp2
 go_ret;exact⟨rfl,L.out⟩
theorem xE0 (na:Bool) (ua:Option Addr) (un uc:Nat) (ea c:Int) (w:World)
  (V:∀ W g,Bw w W→Hn W g na ua un uc ea 50→Ca 128 #[.slice (some ⟨g,0,none⟩) 1 1] W (Rq W (.bool true)))
  (kC:∀ W,Bw w W→Ca 189 #[.agg (Nu na ua un uc ea)] W (Rq W (iV c))) :
  Ca 127 #[.agg (Nu na ua un uc ea)] w (Rq w (iV c)):=by
 have I:Hid _:=kC;clear kC;obtain⟨W,T⟩:=eE (w.alloc (.cells (Nu na ua un uc ea) 50));have u:Bw w W:=by rw[T];exact bR.alloc lR _
 have Y:W.heap.size=w.heap.size+1:=by rw[T];simp
 have H:Hn W w.heap.size na ua un uc ea 50:=by rw[T];exact kB7 _ _
 have k1:=V (W.alloc (.cells (Nu na ua un uc ea) 50)) (w.heap.size+1) (u.alloc u.size _) (by rw[←Y];exact kB7 _ _)
 have C:Hid _:=aI3 u Y H;clear u Y H V
 go_enter Tryz.func127,Tryz.ntmps127
 go_wp2_with fail;rw[←T];clear T;refine k1.mono ?_;rintro r w1 ⟨rfl,D⟩;have L:Hid (Bw W w1):=((kH9 W.heap.size W).alloc lR _).trans (D.mono (by simp))
 clear k1 D;obtain⟨⟨x0,x1,x2⟩,-⟩:=qQ3 (qQ0 C.out.2.2 L.out (by have:=C.out.2.1;omega))
 have J:Hid _:=C.out.1.trans (L.out.mono C.out.1.size);have k3:=I.out w1 J.out
 go_wp2_with fail;refine k3.mono ?_;rintro r w3 ⟨rfl,F⟩;have qQ:Hid _:=J.out.trans (F.mono J.out.size);clear k3 F x0 x1 x2
 go_wp2_with fail
 go_ret;exact⟨rfl,qQ.out⟩
theorem zN3 (n:Nat) (u:n<10):(⟨#[48,49,50,51,52,53,54,55,56,57]⟩:ByteArray).extract n (n+1)=⟨[UInt8.ofNat (48+n)].toArray⟩:=by
 rcases(by omega:n=0∨n=1∨n=2∨n=3∨n=4∨n=5∨n=6∨n=7∨n=8∨n=9)with h|h|h|h|h|h|h|h|h|h <;> subst h <;> rfl
theorem qZ0 (L M:List UInt8):(⟨L.toArray⟩:ByteArray)++⟨M.toArray⟩=⟨(L++M).toArray⟩:=by
 apply ByteArray.ext
 simp
theorem qR9 (k:Nat):∀ n,n<10^(k+1)→(Lib.decDigits n).length≤k+1:=by
 induction k with
 | zero=>intro n h;rw[Lib.decDigits,dif_pos (by simpa using h)];simp
 | succ k ih =>
  intro n h;by_cases u:n<10
  ·rw[Lib.decDigits,dif_pos u];simp
  ·rw[Lib.decDigits,dif_neg u,kM0,List.length_singleton];have:=ih (n / 10) (by rw[kN5] at h;omega)
   omega
def OB (w wr:World) (v:Value) (L:List UInt8):Prop:=wr.ownsRow w.heap.size 5 1 v L.length (Lib.byteCells L)∧Bw w wr
theorem OB.shape {w wr:World} {v:Value} {L:List UInt8} (h:OB w wr v L):∃ ao cap,v=.slice ao L.length cap:=by
 obtain⟨⟨-,h|⟨g,cap,u,h,-⟩⟩,-⟩:=h
 ·exact⟨none,0,by rw[h.1,h.2]⟩
 ·exact⟨_,_,h⟩
theorem OB.push {w wr u:World} {v J:Value} {L:List UInt8} {c:Nat} (h:OB w wr v L) (F:c<256) (Y:u.ownsRow w.heap.size 5 1 J (L.length+1) (Lib.byteCells L ++ [.int .u8 (c:Int)])) (H:(wr.alloc (.cells #[.int .u8 (c:Int)] 5)).grownBy u v.ownBlock):OB w u J (L ++ [UInt8.ofNat c]):=by
 refine⟨?_,(h.2.alloc h.2.size _).grown H (by simp;have:=h.2.size;omega) (fun k V=>(h.1.lt k V).1)⟩
 rw[kM0,List.length_singleton];have e:Lib.byteCells (L ++ [UInt8.ofNat c])=Lib.byteCells L ++ [.int .u8 (c:Int)]:=by
  simp[Lib.byteCells,UInt8.toNat_ofNat_of_lt' F]
 rw[e];exact Y
theorem zU2 (m:Nat) (u:m<16) (h:m<(⟨#[48,49,50,51,52,53,54,55,56,57,97,98,99,100,101,102]⟩:ByteArray).size):((⟨#[48,49,50,51,52,53,54,55,56,57,97,98,99,100,101,102]⟩:ByteArray)[m]'h).toNat=hx m:=by
 have:m=0∨m=1∨m=2∨m=3∨m=4∨m=5∨m=6∨m=7∨m=8∨m=9∨m=10∨m=11∨m=12∨m=13∨m=14∨m=15:=ω
 rcases this with rfl|rfl|rfl|rfl|rfl|rfl|rfl|rfl|rfl|rfl|rfl|rfl|rfl|rfl|rfl|rfl <;> rfl
end Go.Proofs.YtfkaogdmlcdceaaGreatDoor
namespace Go.Proofs.YtfkaogdmlcdceaaGreatDoor
open Go.RowKit Go.Fl64
attribute [local go_sem] iV Nu
end Go.Proofs.YtfkaogdmlcdceaaGreatDoor
