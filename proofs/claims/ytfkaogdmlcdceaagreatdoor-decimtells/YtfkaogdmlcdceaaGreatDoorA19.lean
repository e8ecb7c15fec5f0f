/- Own work: contracts of the program's functions, part 19: DUH DRI DRK DRL DRJ DRN DRO DRP DRQ DRR DRS DRT DUI DUJ DSQ DUK DUL DUM DUN DUO. -/
import Derived.Test.YtfkaogdmlcdceaaGreatDoorA18
import Derived.Test.YtfkaogdmlcdceaaGreatDoorA17
import Derived.Test.YtfkaogdmlcdceaaGreatDoorA14
import Derived.Test.YtfkaogdmlcdceaaGreatDoorA16

set_option maxHeartbeats 16000000
set_option maxRecDepth 200000
set_option linter.unusedVariables false
set_option linter.unusedSimpArgs false
namespace Go.Proofs.YtfkaogdmlcdceaaGreatDoor
open Go Go.RowKit Go.Fl64
attribute [local go_sem] iV Nu
theorem yT2 (C:Bool) (H:Option Addr) (I V:Nat) (e0:Int) (k:Int) (R:Nat) (tn tT tM:Bool×Nat×Int) (w:World) (hA:DN w (.agg (Nu C H I V e0)) tn) (hk:k≤0) (qJ:IntKind.i64.wrap (-k) = -k)
  (kT:Hid (∀ W,Ca 38 #[iV (-k)] W fun r w'=>OutQ W tT r w'))
  (kM:Hid (∀ W X Y,DN W X tn→DN W Y tT→Ca 39 #[X,Y] W fun r w'=>OutQ W tM r w'))
  (kO:Hid (∀ W X,DN W X tM→Ca 151 #[X,iV 2] W (Rq W (.float .f64 R)))) :
  Ca 84 #[.agg (Nu C H I V e0),iV k] w (Rq w (.float .f64 R)):=by
 obtain⟨W,hW⟩:=eE (w.alloc (.cells (Nu C H I V e0) 54));have H0:Hid (NbQ W w.heap.size C H I V e0 tn∧Bw w W):=by
  have hb:Bw w W:=by rw[hW];exact bR.alloc lR _
  exact⟨⟨by rw[hW];exact kB7 _ _,hA.later hb⟩,hb⟩
 clear hA
 go_enter Tryz.func84,Tryz.ntmps84
 go_upto_region 1 with fail;rw[←hW];clear hW
 go_upto_region 2 with fail;refine qJ2 [0,1,2,3,4,5,6] [7,8,9,10,11,12,4] [[],[],[1],[2],[0,3],[4],[5]] W _ [isV (.agg (Nu C H I V e0)),isV (iV k),isV (iV (-k)),isD tT,isD tM,isV (.float .f64 R),isV (.float .f64 R)] (by kernel_rfl) ⟨qQ2 _,qQ2 _,qQ2 _,qX9 _,qX9 _,qQ2 _,qQ2 _,trivial⟩ (by show ∀ s ∈ [7,8,9,10,11,12,4],s<17;decide) ?_ ?_
 ·intro j hj o T act U hb D J;have qG:j<7:=hj;have qX:act.tmps[(2:Nat)]?=some (Value.pointer (some ⟨w.heap.size,0,none⟩)):=(D 2 δ).trans rfl;have qK:act.tmps[(1:Nat)]?=some (iV k):=(D 1 δ).trans rfl;have d2:=(qQ1 (H0.out.1.later hb).1).1;rcases(by omega:j=0∨j=1∨j=2∨j=3∨j=4∨j=5∨j=6)with rfl|rfl|rfl|rfl|rfl|rfl|rfl
  ·obtain rfl:=kF0 T;exact .inl ⟨rfl,qJ0 rfl qX d2.1 d2.2.1 d2.2.2 ⟨_,rfl,rfl,kH9 _ _⟩⟩
  ·obtain rfl:=kF0 T;exact .inl ⟨rfl,qZ7 rfl qK ⟨_,rfl,rfl,kH9 _ _⟩⟩
  ·obtain rfl:=kF0 T;have y1:act.tmps[(8:Nat)]?=_:=dV (J 1 (by simp[dL])) rfl
   exact .inl ⟨rfl,qZ6 (w':=U) (by simp[execOp,y1,qY1,go_sem,qJ]) ⟨_,rfl,rfl,kH9 _ _⟩⟩
  ·obtain rfl:=kF0 T;have y2:act.tmps[(9:Nat)]?=_:=dV (J 2 (by simp[dL])) rfl
   refine .inl ⟨rfl,qQ9 rfl (qZ4 Tryz.func38 (by kernel_rfl) (by kernel_rfl)) (vs:=#[iV (-k)]) (by simp[qZ1 y2]) ?_⟩
   refine(kT.out U).mono ?_
   rintro r w' ⟨s9,qU,n9,qV,e9,rfl,L,F⟩;exact⟨_,rfl,_,rfl,L,F⟩
  ·obtain rfl:=kF0 T;have y0:act.tmps[(7:Nat)]?=_:=dV (J 0 (by simp[dL])) rfl
   obtain⟨u3,qY,v3⟩:=J 3 (by simp[dL])
   have y3:act.tmps[(10:Nat)]?=_:=qY;refine .inl ⟨rfl,qQ9 rfl (qZ4 Tryz.func39 (by kernel_rfl) (by kernel_rfl)) (vs:=#[.agg (Nu C H I V e0),u3]) (by simp[qZ1 y0,qZ1 y3]) ?_⟩
   refine(kM.out U _ _ (H0.out.1.later hb).2 v3).mono ?_
   rintro r w' ⟨s9,qU,n9,qV,e9,rfl,L,F⟩;exact⟨_,rfl,_,rfl,L,F⟩
  ·obtain rfl:=kF0 T;obtain⟨u4,qZ,v4⟩:=J 4 (by simp[dL])
   have y4:act.tmps[(11:Nat)]?=_:=qZ;refine .inl ⟨rfl,qQ9 rfl (qZ4 Tryz.func151 (by kernel_rfl) (by kernel_rfl)) (vs:=#[u4,(Value.int IntKind.i64 2)]) (by simp[qZ1 y4,qY1]) ?_⟩
   refine(kO.out U _ v4).mono ?_
   rintro r w' ⟨rfl,F⟩;exact⟨_,rfl,_,rfl,rfl,F⟩
  ·obtain rfl:=kF0 T;have y5:act.tmps[(12:Nat)]?=_:=dV (J 5 (by simp[dL])) rfl
   exact .inl ⟨rfl,qX5 rfl y5 ⟨_,rfl,rfl,kH9 _ _⟩⟩
 ·intro u W9 qQ hu;have u6:u 6=.float .f64 R:=hu 6 (by show 6<7;decide)
  clear hu;simp only[putL,show List.range 7 = [0,1,2,3,4,5,6] from rfl,kG2,kG3,kG4,kG5,kH2,kH3,kH0,kG9,List.foldl_cons,List.foldl_nil,Nat.reduceLT,Nat.reduceMod,Nat.reduceDiv,Nat.reduceMul,Nat.reduceAdd,Nat.reduceEqDiff,reduceIte,kG8,Act.put,kU9,kG0,kG1];rw[u6];clear u6;have H1:Hid _:=H0.out.2.trans (qQ.mono H0.out.2.size);clear qQ H0
  go_wp2_with fail
  go_ret;exact⟨rfl,H1.out⟩
theorem yT1 (T:Bool) (H:Option Addr) (L V:Nat) (C:Int) (k:Int) (R:Nat) (tn tT:Bool×Nat×Int) (w:World) (hA:DN w (.agg (Nu T H L V C)) tn) (hk:¬ k≤0)
  (kT:Hid (∀ W,Ca 38 #[iV k] W fun r w'=>OutQ W tT r w'))
  (kO:Hid (∀ W X Y,DN W X tn→DN W Y tT→Ca 152 #[X,Y,iV 2] W (Rq W (.float .f64 R)))) :
  Ca 84 #[.agg (Nu T H L V C),iV k] w (Rq w (.float .f64 R)):=by
 obtain⟨W,hW⟩:=eE (w.alloc (.cells (Nu T H L V C) 54));have H0:Hid (NbQ W w.heap.size T H L V C tn∧Bw w W):=by
  have hb:Bw w W:=by rw[hW];exact bR.alloc lR _
  exact⟨⟨by rw[hW];exact kB7 _ _,hA.later hb⟩,hb⟩
 clear hA
 go_enter Tryz.func84,Tryz.ntmps84
 go_upto_region 1 with fail;rw[←hW];clear hW
 go_upto_region 3 with fail;refine qJ2 [0,1,2,3,4] [13,14,15,16,4] [[],[],[1],[0,2],[3]] W _ [isV (.agg (Nu T H L V C)),isV (iV k),isD tT,isV (.float .f64 R),isV (.float .f64 R)] (by kernel_rfl) ⟨qQ2 _,qQ2 _,qX9 _,qQ2 _,qQ2 _,trivial⟩ (by show ∀ s ∈ [13,14,15,16,4],s<17;decide) ?_ ?_
 ·intro j hj o I act U hb F J;have qJ:j<5:=hj;have qY:act.tmps[(2:Nat)]?=some (Value.pointer (some ⟨w.heap.size,0,none⟩)):=(F 2 δ).trans rfl;have qX:act.tmps[(1:Nat)]?=some (iV k):=(F 1 δ).trans rfl;have d2:=(qQ1 (H0.out.1.later hb).1).1;rcases(by omega:j=0∨j=1∨j=2∨j=3∨j=4)with rfl|rfl|rfl|rfl|rfl
  ·obtain rfl:=kF0 I;exact .inl ⟨rfl,qJ0 rfl qY d2.1 d2.2.1 d2.2.2 ⟨_,rfl,rfl,kH9 _ _⟩⟩
  ·obtain rfl:=kF0 I;exact .inl ⟨rfl,qZ7 rfl qX ⟨_,rfl,rfl,kH9 _ _⟩⟩
  ·obtain rfl:=kF0 I;have y1:act.tmps[(14:Nat)]?=_:=dV (J 1 (by simp[dL])) rfl
   refine .inl ⟨rfl,qQ9 rfl (qZ4 Tryz.func38 (by kernel_rfl) (by kernel_rfl)) (vs:=#[iV k]) (by simp[qZ1 y1]) ?_⟩
   refine(kT.out U).mono ?_
   rintro r w' ⟨s9,qU,n9,qV,e9,rfl,qK,D⟩;exact⟨_,rfl,_,rfl,qK,D⟩
  ·obtain rfl:=kF0 I;have y0:act.tmps[(13:Nat)]?=_:=dV (J 0 (by simp[dL])) rfl
   obtain⟨u2,qZ,v2⟩:=J 2 (by simp[dL])
   have y2:act.tmps[(15:Nat)]?=_:=qZ;refine .inl ⟨rfl,qQ9 rfl (qZ4 Tryz.func152 (by kernel_rfl) (by kernel_rfl)) (vs:=#[.agg (Nu T H L V C),u2,(Value.int IntKind.i64 2)]) (by simp[qZ1 y0,qZ1 y2,qY1]) ?_⟩
   refine(kO.out U _ _ (H0.out.1.later hb).2 v2).mono ?_
   rintro r w' ⟨rfl,D⟩;exact⟨_,rfl,_,rfl,rfl,D⟩
  ·obtain rfl:=kF0 I;have y3:act.tmps[(16:Nat)]?=_:=dV (J 3 (by simp[dL])) rfl
   exact .inl ⟨rfl,qX5 rfl y3 ⟨_,rfl,rfl,kH9 _ _⟩⟩
 ·intro u W9 qQ hu;have u4:u 4=.float .f64 R:=hu 4 (by show 4<5;decide)
  clear hu;simp only[putL,show List.range 5 = [0,1,2,3,4] from rfl,kG2,kG3,kG4,kG5,kH2,kH3,kH0,kG9,List.foldl_cons,List.foldl_nil,Nat.reduceLT,Nat.reduceMod,Nat.reduceDiv,Nat.reduceMul,Nat.reduceAdd,Nat.reduceEqDiff,reduceIte,kG8,Act.put,kU9,kG0,kG1];rw[u4];clear u4;have H1:Hid _:=H0.out.2.trans (qQ.mono H0.out.2.size);clear qQ H0
  go_wp2_with fail
  go_ret;exact⟨rfl,H1.out⟩
theorem xD6 {Z P:Nat} (s:Bool) {m:Int} (Y:1≤m∧m≤3) (u:Z≠0):toD (un (if s then -(Z:Int) else(Z:Int)) P) m=tfF s true Z (-(P:Int)) m:=by
 rw[zI7 s u];unfold toD;have V:=(qX0 _ _ lR u).1;have H:¬ (Z / 2^tz Z=0):=fun J=>by rw[J,Nat.mul_zero] at V;omega
 rw[kU5 (show ¬ ((s,Z / 2^tz Z,(tz Z:Int) - (P:Int)):Bool×Nat×Int).2.1=0 from H)];exact to_un s (e := -(P:Int)) Y u
theorem xD3 {N b:Nat} (V:N≠0) (h:N<2^b):tz N<b:=by
 have Y:=(qX0 _ _ lR V).1;have J:N / 2^tz N≠0:=fun h=>by rw[h,Nat.mul_zero] at Y;omega
 have u:2^tz N*1≤2^tz N*(N / 2^tz N):=kB1 _ (kB0 J);rw[Y,kM1] at u;exact(Nat.pow_lt_pow_iff_right δ).1 (kF7 u h)
theorem yP1 {N M b d:Nat} (u:N≠0) (Y:M≠0) (J:N<2^b) (V:M<2^d) (hb:b≤60000) (hd:d≤60000) {W:World} {A B:Value} (L:DN W A (un (N:Int) 0)) (T:DN W B (un (M:Int) 0)) :
  Ca 152 #[A,B,iV 2] W (Rq W (.float .f64 (rtF (un (N:Int) 0) (un (M:Int) 0) 2))):=by
 have l1:=qV9 (qH6 (p:=0) (qY4 J));have l2:=qV9 (qH6 (p:=0) (qY4 V));have I:=xD3 u J;have C:=xD3 Y V;have H:=zJ0 u;have e2:=zJ0 Y;have D:=qX0 _ _ lR u;have F:=qX0 _ _ lR Y;refine dratQ ω ω (by rw[H];show -65536≤((tz N:Nat):Int)∧((tz N:Nat):Int)≤65536;omega) (by rw[e2];show -65536≤((tz M:Nat):Int)∧((tz M:Nat):Int)≤65536;omega) ?_ ?_ ω L T
 ·rw[H];show N / 2^tz N≠0
  intro h;rw[h,Nat.mul_zero] at D;omega
 ·rw[e2];show M / 2^tz M≠0
  intro h;rw[h,Nat.mul_zero] at F;omega
def bkF (N:Nat) (k:Int):Nat:=rtF (un ((N*tnU k:Nat):Int) 0) (un ((tnO k:Nat):Int) 0) 2
theorem yO7 {N b:Nat} {k:Int} {X:Value} {w:World} (C:N≠0) (F:N<2^b) (hb:b≤40000) (hk : -2000≤k∧k≤2000) (u:DN w X (un (N:Int) 0)) :
  Ca 84 #[X,iV k] w (Rq w (.float .f64 (bkF N k))):=by
 obtain⟨s,ao,n,I,e,rfl⟩:=u.shape;by_cases h:0<k
 ·obtain⟨m,rfl⟩:∃ m:Nat,k=(m:Int):=⟨k.toNat,ω⟩;obtain⟨V,J⟩:=tn_p m;refine yT1 s ao n I e m _ _ (un ((10^m:Nat):Int) 0) w u ω (fun W=>(zN6 m W ω).mono fun r w' h=>outQ h) ?_;intro W X Y u H;unfold bkF;rw[V,J,kM1];exact yP1 C (Nat.ne_of_gt (kH1 δ)) F (qU4 m) ω ω u H
 ·obtain⟨m,rfl⟩:∃ m:Nat,k = -(m:Int):=⟨k.natAbs,ω⟩;have J:=(tn_n m).2;have V:=xX2 m;have hp:0<10^m:=kH1 δ;have D:N*10^m≠0:=Nat.mul_ne_zero C ω;refine yT2 s ao n I e _ _ _ (un ((10^m:Nat):Int) 0) (un ((N*10^m:Nat):Int) 0) w u ω (by rw[kB5];omega) ?_ ?_ ?_
  ·intro W;rw[Int.neg_neg];exact(zN6 m W ω).mono fun r w' h=>outQ h
  ·intro W X Y u H;have h:=zN2 (qY4 F) (qY4 (qU4 m)) ω ω u H;rw[←kN8] at h;exact h.mono fun r w' h=>outQ h
  ·intro W X u;have e3:toD (un ((N*10^m:Nat):Int) 0) 2=bkF N (-(m:Int)):=by
    unfold bkF;rw[V,J];have L:=xD6 (P:=0) (m:=2) false ω D;have T:=yZ4 (P:=0) (m:=2) false ω D;rw[kU5 δ] at L T;rw[L,T]
   rw[←e3];exact dtoQ (qG3 (qY4 (mulN F (qU4 m))) ω ω) ω u
theorem xN6 {a N b:Nat} {k:Int} (u:N≠0) (J:N<2^b) (D:b≤40000) (Y : -2000≤k∧k≤2000) (V:0<a) (h:a<9218868437227405312):bkF N k=a↔Bk a N k:=by
 have T:=zU3;have H:0<tnU k:=kH1 δ;have F:0<tnO k:=kH1 δ;unfold bkF;rw[xK0 (Nat.mul_ne_zero u ω) ω (mulN J (qO2 Y).2) (qO2 Y).1 ω V h,kN7,kM1];unfold Bk;have e:2*(N*tnU k)*2^kP=N*(tnU k*2^kQ):=by
  rw[kQ_n,kN5,kN4 (2^kP) 2,Nat.mul_left_comm (tnU k),Nat.mul_left_comm N];simp only[kN6]
 rw[e]
theorem bk_le {N b:Nat} {k:Int} (u:N≠0) (V:N<2^b) (T:b≤40000) (Y : -2000≤k∧k≤2000):bkF N k≤9218868437227405312:=by
 have L:=zU3;have F:0<tnU k:=kH1 δ;have D:0<tnO k:=kH1 δ;obtain⟨X,e,W,H⟩:=xT4 (P:=0) (Nat.mul_ne_zero u (by omega:tnU k≠0)) (by omega:tnO k≠0) (mulN V (qO2 Y).2) (qO2 Y).1 ω
 have J:=H false 2 ω;rw[kU5 δ] at J;unfold bkF;rw[J,yQ2];exact xQ6 _ _ _
theorem kJ4 {a N b:Nat} {k:Int} (u:N≠0) (V:N<2^b) (J:b≤40000) (Y : -2000≤k∧k≤2000) (F:0<a) (h:a<9218868437227405312):(FloatKind.f64.format.order (bkF N k) a==some Ordering.eq)=true↔Bk a N k:=by
 have H:=bk_le u V J Y;rw[←xN6 u V J Y F h,qA0 _ a ω ω,yO3 H ω];exact decide_eq_true_iff
theorem zG2 (f:Nat) (X N X2:Int) (tA t1 zH zG tB:Bool×Nat×Int) (tL tU tH:Int→Bool×Nat×Int) (ex p q:Int→Bool) (FL FH:Int→Nat) (c:Int) (od up:Bool) (D S:List UInt8) (z:Nat) (w:World)
  (qP:Hid (-1000≤X∧X≤1000∧1≤N∧N≤20))
  (hH:Hid (∀ n,(ex n=true→tH n=tL n)∧(ex n=false→tH n=tU n)))
  (kA:∀ W,Calls Tryz.prog 35 #[.float .f64 f] W fun r w'=>OutQ W tA r w')
  (xY:Hid (∀ W X',DN W X' tA→Calls Tryz.prog 81 #[X'] W fun r w'=>r=.returned (.int .i64 X)∧Bw W w'))
  (kS:Hid (∀ n,1≤n→n≤N→∀ W A,DN W A tA→Calls Tryz.prog 82 #[A,.int .i64 (n - 1 - X)] W fun r w'=>OutS W (tL n) (ex n) r w'))
  (kW:Hid (∀ W,Calls Tryz.prog 46 #[.int .i64 1] W fun r w'=>OutQ W t1 r w'))
  (kU:Hid (∀ n,1≤n→n≤N→∀ W A B,DN W A (tL n)→DN W B t1→Calls Tryz.prog 83 #[A,B] W fun r w'=>OutQ W (tU n) r w'))
  (xK:Hid (∀ n,1≤n→n≤N→∀ W A,DN W A (tL n)→Calls Tryz.prog 84 #[A,.int .i64 (n - 1 - X)] W fun r w'=>r=.returned (.float .f64 (FL n))∧Bw W w'))
  (xX:Hid (∀ n,1≤n→n≤N→∀ W A,DN W A (tH n)→Calls Tryz.prog 84 #[A,.int .i64 (n - 1 - X)] W fun r w'=>r=.returned (.float .f64 (FH n))∧Bw W w'))
  (hp:Hid (∀ n,1≤n→n≤N→(FloatKind.f64.format.order (FL n) f==some Ordering.eq)=p n∧(FloatKind.f64.format.order (FH n) f==some Ordering.eq)=q n))
  (yH:Hid (∀ n,1≤n→n<N→p n=false∧q n=false)) (yL:Hid (p N=true∨q N=true))
  (yX:Hid (∀ W A B,DN W A tA→DN W B (tL N)→Calls Tryz.prog 85 #[A,B,.int .i64 (N - 1 - X)] W fun r w'=>OutQ W zH r w'))
  (yY:Hid (∀ W A B,DN W A tA→DN W B (tH N)→Calls Tryz.prog 85 #[A,B,.int .i64 (N - 1 - X)] W fun r w'=>OutQ W zG r w'))
  (kO:Hid (∀ W A B,DN W A zH→DN W B zG→Calls Tryz.prog 49 #[A,B] W fun r w'=>r=.returned (.int .i64 c)∧Bw W w'))
  (kD:Hid (∀ W A,DN W A (tL N)→Calls Tryz.prog 86 #[A] W fun r w'=>r=.returned (.bool od)∧Bw W w'))
  (zF:Hid ((p N=false→up=true)∧(p N=true→q N=false→up=false)∧(p N=true→q N=true→(0<c∧up=true)∨(c=0∧up=od)∨(c<0∧up=false))))
  (hB:Hid ((up=true→tB=tH N)∧(up=false→tB=tL N)))
  (yK:Hid (∀ W A,DN W A tB→Calls Tryz.prog 36 #[A] W fun r w'=>r=.returned (.string ⟨(D++List.replicate z 48).toArray⟩)∧Bw W w'))
  (hD:Hid (1≤D.length∧D.length+z≤1000∧X+(D.length+z:Nat) - N=X2∧(∀ x,D.getLast?=some x→x≠48))) :
  Calls Tryz.prog 28 #[.float .f64 f] w fun r w'=>r=.returned (.tuple #[.string ⟨D.toArray⟩,.int .i64 X2])∧Bw w w':=by
 have q1:=kA w;obtain⟨Sy,zS⟩:∃ Sy:Nat→ByteArray,∀ y,Sy y=⟨(D++List.replicate y 48).toArray⟩:=⟨_,fun _=>rfl⟩;have qZ:Hid (∀ y,Sy y=⟨(D++List.replicate y 48).toArray⟩):=zS;have zV:Hid (∀ y,(Sy y).size=D.length+y):=fun y=>by rw[zS];show(D++List.replicate y 48).length=_;simp
 clear kA zS
 go_enter Tryz.func28,Tryz.ntmps28
 go_upto_region 1 with fail
 go_wp2_with fail;refine q1.mono ?_;rintro r w1 ⟨s1,T,n1,F,I,rfl,yS,zY⟩;obtain⟨V,hV⟩:=eE (w1.alloc (.cells #[.bool s1,.slice T n1 F,.int .i64 I] 54));obtain⟨C,qO⟩:=eE w1.heap.size;have H1:Hid (NbQ V C s1 T n1 F I tA∧Bw w V∧w.heap.size≤C):=by
  have qY:Bw w1 V:=by rw[hV];exact bR.alloc lR _
  exact⟨⟨by rw[hV,qO];exact kB7 _ _,yS.later qY⟩,zY.trans (qY.mono zY.size),by rw[qO];exact zY.size⟩
 clear q1 yS zY
 go_upto_region 2 with fail;rw[←hV,←qO];clear hV qO;obtain⟨⟨c0,c1,c2⟩,-⟩:=qQ1 H1.out.1.1;have q1:=xY.out V _ H1.out.1.2
 go_wp2_with fail;refine q1.mono ?_;rintro r w2 ⟨rfl,zP⟩;have H2:Hid (NbQ w2 C s1 T n1 F I tA∧Bw w w2∧w.heap.size≤C):=⟨H1.out.1.later zP,H1.out.2.1.trans (zP.mono H1.out.2.1.size),H1.out.2.2⟩;clear q1 zP H1 c0 c1 c2
 go_upto_region 4 with fail
 go_loopw [5,6] (fun xv v wr=>∃ n:Int,xv=.int .i64 X∧v=.int .i64 n∧Hid (1≤n∧n≤N)∧Hid (NbQ wr C s1 T n1 F I tA∧Bw w wr∧w.heap.size≤C)) (fun _ v _=>(N - intOf v).toNat)
 case atStart=>exact⟨1,rfl,rfl,⟨ω,qP.out.2.2.1⟩,H2⟩
 case round =>
  obtain⟨n,rfl,rfl,hn,HI⟩:=hrel;clear H2;have u1:IntKind.i64.wrap (n - 1)=n - 1:=by have:=hn.out;have:=qP.out;rw[kB5];omega
  have u2:IntKind.i64.wrap (n - 1 - X)=n - 1 - X:=by have:=hn.out;have:=qP.out;rw[kB5];omega
  have u3:IntKind.i64.wrap (n+1)=n+1:=by have:=hn.out;have:=qP.out;rw[kB5];omega
  obtain⟨⟨c0,c1,c2⟩,-⟩:=qQ1 HI.out.1.1;have q1:=kS.out n hn.out.1 hn.out.2 wr _ HI.out.1.2
  go_wp2_with fail;refine q1.mono ?_;rintro r w3 ⟨s2,H,n2,J,e2,rfl,yD,zZ⟩;obtain⟨V2,zJ⟩:=eE (w3.alloc (.cells #[.bool s2,.slice H n2 J,.int .i64 e2] 54));obtain⟨gL,qE⟩:=eE w3.heap.size;have H2:Hid (NbQ V2 C s1 T n1 F I tA∧NbQ V2 gL s2 H n2 J e2 (tL n)∧Bw w V2∧w.heap.size≤C∧C<gL):=by
   have qY:Bw w3 V2:=by rw[zJ];exact bR.alloc lR _
   have hb:=zZ.trans (qY.mono zZ.size);exact⟨HI.out.1.later hb,⟨by rw[zJ,qE];exact kB7 _ _,yD.later qY⟩,HI.out.2.1.trans (hb.mono HI.out.2.1.size),HI.out.2.2,by rw[qE];exact kF6 HI.out.1.lt zZ.size⟩
  clear q1 yD zZ HI c0 c1 c2 u1 u2
  go_upto_region 7 with fail;rw[←zJ,←qE];clear zJ qE;obtain⟨⟨c0,c1,c2⟩,-⟩:=qQ1 H2.out.2.1.1;obtain⟨V3,zK⟩:=eE (V2.alloc (.cells #[.bool s2,.slice H n2 J,.int .i64 e2] 54));obtain⟨gH,qA⟩:=eE V2.heap.size;have H3:Hid (NbQ V3 C s1 T n1 F I tA∧NbQ V3 gL s2 H n2 J e2 (tL n)∧NbQ V3 gH s2 H n2 J e2 (tL n)∧Bw w V3∧w.heap.size≤C∧C<gL∧gL<gH):=by
   have qY:Bw V2 V3:=by rw[zK];exact bR.alloc lR _
   have h4:V3.heap[V2.heap.size]?=some (.cells #[.bool s2,.slice H n2 J,.int .i64 e2] 54 (0,0)):=by rw[zK];exact kB7 _ _
   have h5:=H2.out.2.1.2.later qY;have h6:=H2.out.2.1.later qY;exact⟨H2.out.1.later qY,h6,⟨by rw[qA];exact h4,h5⟩,H2.out.2.2.1.trans (qY.mono H2.out.2.2.1.size),H2.out.2.2.2.1,H2.out.2.2.2.2,by rw[qA];exact H2.out.2.1.lt⟩
  go_upto_region 8 with fail;rw[←zK,←qA];clear zK qA H2 c0 c1 c2
  go_upto_if 34 with fail
  go_cut [10,16,17,18,19] from 9 to 37 (fun v xQ yO yI yA wx=>v=Value.pointer (some ⟨gH,0,none⟩)∧xQ=.float .f64 f∧yO=.agg #[.bool s1,.slice T n1 F,.int .i64 I]∧yI=.agg #[.bool s1,.slice T n1 F,.int .i64 I]∧yA=.int .i64 X∧∃ (s3:Bool) (qK:Option Addr) (n3 qX:Nat) (e3:Int),Hid (NbQ wx C s1 T n1 F I tA∧NbQ wx gL s2 H n2 J e2 (tL n)∧NbQ wx gH s3 qK n3 qX e3 (tH n)∧Bw w wx∧w.heap.size≤C∧C<gL∧gL<gH))
  case first =>
   rcases(by cases ex n <;> simp:ex n=true∨ex n=false)with hE|hE
   ·rw[hE];have H4:Hid (NbQ V3 C s1 T n1 F I tA∧NbQ V3 gL s2 H n2 J e2 (tL n)∧NbQ V3 gH s2 H n2 J e2 (tH n)∧Bw w V3∧w.heap.size≤C∧C<gL∧gL<gH):=by rw[(hH.out n).1 hE];exact H3
    clear H3
    go_wp2_with fail
    go_meet
    exact⟨rfl,rfl,rfl,rfl,rfl,_,_,_,_,_,H4⟩
   ·rw[hE]
    go_upto_region 9 with fail;have zQ:∀ i,i<1→∃ cs,V3.heap[(fun _=>gH:Nat→Nat) i]?=some (.cells cs 54 (0,0))∧NC3 cs:=fun i hi=>⟨_,H3.out.2.2.1.1,_,_,_,_,_,rfl⟩;refine qG4 qX2 [0,1,2] [3] [35,36,37] [[],[],[0,1]] [[2]] [2] (fun _=>10) (fun _=>gH) (gH) 54 NC3 3 V3 _ [isV (.agg #[.bool s2,.slice H n2 J,.int .i64 e2]),isD (t1),isD (tU n)] (by kernel_rfl) ⟨qQ2 _,qX9 _,qX9 _,trivial⟩ ⟨qK4 _ _ _,qJ6 _,qJ6 _,trivial⟩ (by show ∀ s ∈ [35,36,37],s<108;decide) ?_ ?_ Tryz.info54 ?_ ?_ ?_ ?_ (kM8 H3.out.2.2.1.lt) ?_
    ·intro i hi U u h;obtain rfl:i=0:=Nat.lt_one_iff.1 hi;obtain⟨s9,qS,n9,qD,e9,rfl⟩:=DN.shape (show DN U u _ from h);exact⟨_,rfl,rfl,⟨_,_,_,_,_,rfl⟩,one3 rfl rfl⟩
    ·intro j hj o ho act U hK qQ Y xF;have yP:j<3:=hj;have qT:act.tmps[(8:Nat)]?=some (Value.pointer (some ⟨gL,0,none⟩)):=(qQ 8 δ).trans rfl;have qB:act.tmps[(10:Nat)]?=some (Value.pointer (some ⟨gH,0,none⟩)):=(qQ 10 δ).trans rfl;have xG:U.heap[gL]?=some (.cells #[.bool s2,.slice H n2 J,.int .i64 e2] 54 (0,0)):=(hK.keep gL (by have:=H3.out.2.2.2.2.2.2;have:=H3.out.2.2.1.lt;omega) (fun i hi=>by show gL≠gH;have:=H3.out.2.2.2.2.2.2;omega)).trans H3.out.2.1.1
     have d8:=(qQ1 xG).1;rcases(by omega:j=0∨j=1∨j=2)with rfl|rfl|rfl
     ·obtain rfl:=kF0 ho;exact .inl ⟨rfl,qJ0 rfl qT d8.1 d8.2.1 d8.2.2 ⟨_,rfl,rfl,kH9 _ _⟩⟩
     ·obtain rfl:=kF0 ho;refine .inl ⟨rfl,qQ9 rfl (qZ4 Tryz.func46 (by kernel_rfl) (by kernel_rfl)) (vs:=#[(Value.int IntKind.i64 1)]) (by simp[qY1]) ?_⟩
      refine(kW.out U).mono ?_
      rintro r w' ⟨s9,qS,n9,qD,e9,rfl,qH,qV⟩;exact⟨_,rfl,_,rfl,qH,qV⟩
     ·obtain rfl:=kF0 ho;have y0:act.tmps[(35:Nat)]?=_:=dV (Y 0 (by simp[dL])) rfl
      obtain⟨u1,yE,v1⟩:=Y 1 (by simp[dL])
      have y1:act.tmps[(36:Nat)]?=_:=yE;refine .inl ⟨rfl,qQ9 rfl (qZ4 Tryz.func83 (by kernel_rfl) (by kernel_rfl)) (vs:=#[.agg #[.bool s2,.slice H n2 J,.int .i64 e2],u1]) (by simp[qZ1 y0,qZ1 y1]) ?_⟩
      refine(kU.out n hn.out.1 hn.out.2 U _ _ (H3.out.2.1.2.keepN hK zQ) v1).mono ?_
      rintro r w' ⟨s9,qS,n9,qD,e9,rfl,qH,qV⟩;exact⟨_,rfl,_,rfl,qH,qV⟩
    ·intro i hi;obtain rfl:i=0:=Nat.lt_one_iff.1 hi;exact⟨_,rfl,rfl⟩
    ·intro i hi;exact⟨rfl,δ⟩
    ·intro i hi;exact⟨by show gH≤gH;omega,_,H3.out.2.2.1.1,rfl,_,_,_,_,_,rfl⟩
    ·intro i i' hi xU _;exact(Nat.lt_one_iff.1 hi).trans (Nat.lt_one_iff.1 xU).symm
    ·intro u U hK hu yR;obtain⟨xH,ya,z9⟩:=yR 0 δ;have q9:DN U (u 2) _:=hu 2 (by show 2<3;decide)
     have zA:u 2=.agg xH:=ya;rw[zA] at q9;obtain⟨s9,qS,n9,qD,e9,h9⟩:=DN.shape q9;obtain rfl:=Value.agg.inj h9;clear hu yR ya zA;simp only[putL,show List.range 3 = [0,1,2] from rfl,kG2,kG3,kG4,kG5,kH2,kH3,kH0,kG9,List.foldl_cons,List.foldl_nil,Nat.reduceLT,Nat.reduceMod,Nat.reduceDiv,Nat.reduceMul,Nat.reduceAdd,Nat.reduceEqDiff,reduceIte,kG8,Act.put,kU9,kG0,kG1];have yM:U.heap[C]?=some (.cells #[.bool s1,.slice T n1 F,.int .i64 I] 54 (0,0)):=(hK.keep C (by have:=H3.out.2.2.2.2.2;have:=H3.out.2.2.1.lt;omega) (fun i hi=>by show C≠gH;have:=H3.out.2.2.2.2.2;omega)).trans H3.out.1.1
     have yN:U.heap[gL]?=some (.cells #[.bool s2,.slice H n2 J,.int .i64 e2] 54 (0,0)):=(hK.keep gL (by have:=H3.out.2.2.2.2.2.2;have:=H3.out.2.2.1.lt;omega) (fun i hi=>by show gL≠gH;have:=H3.out.2.2.2.2.2.2;omega)).trans H3.out.2.1.1
     have H4:Hid (∃ (s3:Bool) (qK:Option Addr) (n3 qX:Nat) (e3:Int),NbQ U C s1 T n1 F I tA∧NbQ U gL s2 H n2 J e2 (tL n)∧NbQ U gH s3 qK n3 qX e3 (tH n)∧Bw w U∧w.heap.size≤C∧C<gL∧gL<gH):=by
      rw[(hH.out n).2 hE];exact⟨s9,qS,n9,qD,e9,⟨yM,H3.out.1.2.keepN hK zQ⟩,⟨yN,H3.out.2.1.2.keepN hK zQ⟩,⟨z9,q9⟩,H3.out.2.2.2.1.trans (hK.below.mono (by have:=H3.out.2.2.2.2;omega)),H3.out.2.2.2.2⟩
     clear yM yN hK z9 q9 H3 zQ
     go_wp2_with fail
     go_meet
     obtain⟨s3,qK,n3,qX,e3,h⟩:=H4.out;exact⟨rfl,rfl,rfl,rfl,rfl,_,_,_,_,_,h⟩
  case rest =>
  obtain⟨rfl,rfl,rfl,rfl,rfl,s3,qK,n3,qX,e3,H5⟩:=hcut;clear H3;have H3:=H5;clear H5;obtain⟨pn,zM⟩:=eE (p n);obtain⟨qn,zN⟩:=eE (q n);have yV:(FloatKind.f64.format.order (FL n) f==some Ordering.eq)=pn:=by rw[zM];exact(hp.out n hn.out.1 hn.out.2).1
  have yJ:(FloatKind.f64.format.order (FH n) f==some Ordering.eq)=qn:=by rw[zN];exact(hp.out n hn.out.1 hn.out.2).2
  have qR:Hid (pn=p n∧qn=q n):=⟨zM,zN⟩;clear zM zN
  go_upto_region 10 with fail;refine qJ2 [0,1,2,3,4,5,6,7,8,9,10,11] [38,39,40,41,42,43,44,45,46,47,11,12] [[],[],[0,1],[],[2,3],[],[],[5,6],[],[7,8],[4],[9]] wc _ [isV (.agg #[.bool s2,.slice H n2 J,.int .i64 e2]),isV (.int .i64 (n - 1 - X)),isV (.float .f64 (FL n)),isV (.float .f64 f),isV (.bool pn),isV (.agg #[.bool s3,.slice qK n3 qX,.int .i64 e3]),isV (.int .i64 (n - 1 - X)),isV (.float .f64 (FH n)),isV (.float .f64 f),isV (.bool qn),isV (.bool pn),isV (.bool qn)] (by kernel_rfl) ⟨qQ2 _,qQ2 _,qQ2 _,qQ2 _,qQ2 _,qQ2 _,qQ2 _,qQ2 _,qQ2 _,qQ2 _,qQ2 _,qQ2 _,trivial⟩ (by show ∀ s ∈ [38,39,40,41,42,43,44,45,46,47,11,12],s<108;decide) ?_ ?_
  ·intro j hj o ho act U hb qQ Y;have yP:j<12:=hj;have qT:act.tmps[(8:Nat)]?=some (Value.pointer (some ⟨gL,0,none⟩)):=(qQ 8 δ).trans rfl;have qB:act.tmps[(10:Nat)]?=some (Value.pointer (some ⟨gH,0,none⟩)):=(qQ 10 δ).trans rfl;have qL:act.tmps[(7:Nat)]?=some (Value.int .i64 (n - 1 - X)):=(qQ 7 δ).trans rfl;have yZ:act.tmps[(0:Nat)]?=some (Value.float .f64 f):=(qQ 0 δ).trans rfl;have d8:=(qQ1 (H3.out.2.1.later hb).1).1;have qF:=(qQ1 (H3.out.2.2.1.later hb).1).1;rcases(by omega:j=0∨j=1∨j=2∨j=3∨j=4∨j=5∨j=6∨j=7∨j=8∨j=9∨j=10∨j=11)with rfl|rfl|rfl|rfl|rfl|rfl|rfl|rfl|rfl|rfl|rfl|rfl
   ·obtain rfl:=kF0 ho;exact .inl ⟨rfl,qJ0 rfl qT d8.1 d8.2.1 d8.2.2 ⟨_,rfl,rfl,kH9 _ _⟩⟩
   ·obtain rfl:=kF0 ho;exact .inl ⟨rfl,qZ7 rfl qL ⟨_,rfl,rfl,kH9 _ _⟩⟩
   ·obtain rfl:=kF0 ho;have y0:act.tmps[(38:Nat)]?=_:=dV (Y 0 (by simp[dL])) rfl
    have y1:act.tmps[(39:Nat)]?=_:=dV (Y 1 (by simp[dL])) rfl
    refine .inl ⟨rfl,qQ9 rfl (qZ4 Tryz.func84 (by kernel_rfl) (by kernel_rfl)) (vs:=#[.agg #[.bool s2,.slice H n2 J,.int .i64 e2],.int .i64 (n - 1 - X)]) (by simp[qZ1 y0,qZ1 y1]) ?_⟩
    refine(xK.out n hn.out.1 hn.out.2 U _ (H3.out.2.1.later hb).2).mono ?_
    rintro r w' ⟨rfl,qV⟩;exact⟨_,rfl,_,rfl,rfl,qV⟩
   ·obtain rfl:=kF0 ho;exact .inl ⟨rfl,qZ7 rfl yZ ⟨_,rfl,rfl,kH9 _ _⟩⟩
   ·obtain rfl:=kF0 ho;have y2:act.tmps[(40:Nat)]?=_:=dV (Y 2 (by simp[dL])) rfl
    have y3:act.tmps[(41:Nat)]?=_:=dV (Y 3 (by simp[dL])) rfl
    exact .inl ⟨rfl,qZ6 (w':=U) (by simp[execOp,y2,y3,qY1,go_sem,yV]) ⟨_,rfl,rfl,kH9 _ _⟩⟩
   ·obtain rfl:=kF0 ho;exact .inl ⟨rfl,qJ0 rfl qB qF.1 qF.2.1 qF.2.2 ⟨_,rfl,rfl,kH9 _ _⟩⟩
   ·obtain rfl:=kF0 ho;exact .inl ⟨rfl,qZ7 rfl qL ⟨_,rfl,rfl,kH9 _ _⟩⟩
   ·obtain rfl:=kF0 ho;have y5:act.tmps[(43:Nat)]?=_:=dV (Y 5 (by simp[dL])) rfl
    have y6:act.tmps[(44:Nat)]?=_:=dV (Y 6 (by simp[dL])) rfl
    refine .inl ⟨rfl,qQ9 rfl (qZ4 Tryz.func84 (by kernel_rfl) (by kernel_rfl)) (vs:=#[.agg #[.bool s3,.slice qK n3 qX,.int .i64 e3],.int .i64 (n - 1 - X)]) (by simp[qZ1 y5,qZ1 y6]) ?_⟩
    refine(xX.out n hn.out.1 hn.out.2 U _ (H3.out.2.2.1.later hb).2).mono ?_
    rintro r w' ⟨rfl,qV⟩;exact⟨_,rfl,_,rfl,rfl,qV⟩
   ·obtain rfl:=kF0 ho;exact .inl ⟨rfl,qZ7 rfl yZ ⟨_,rfl,rfl,kH9 _ _⟩⟩
   ·obtain rfl:=kF0 ho;have y7:act.tmps[(45:Nat)]?=_:=dV (Y 7 (by simp[dL])) rfl
    have y8:act.tmps[(46:Nat)]?=_:=dV (Y 8 (by simp[dL])) rfl
    exact .inl ⟨rfl,qZ6 (w':=U) (by simp[execOp,y7,y8,qY1,go_sem,yJ]) ⟨_,rfl,rfl,kH9 _ _⟩⟩
   ·obtain rfl:=kF0 ho;have y4:act.tmps[(42:Nat)]?=_:=dV (Y 4 (by simp[dL])) rfl
    exact .inl ⟨rfl,qX5 rfl y4 ⟨_,rfl,rfl,kH9 _ _⟩⟩
   ·obtain rfl:=kF0 ho;have y9:act.tmps[(47:Nat)]?=_:=dV (Y 9 (by simp[dL])) rfl
    exact .inl ⟨rfl,qX5 rfl y9 ⟨_,rfl,rfl,kH9 _ _⟩⟩
  ·intro u W9 qU hu;have zO:u 10=.bool pn:=hu 10 (by show 10<12;decide)
   have zI:u 11=.bool qn:=hu 11 (by show 11<12;decide)
   clear hu;simp only[putL,show List.range 12 = [0,1,2,3,4,5,6,7,8,9,10,11] from rfl,kG2,kG3,kG4,kG5,kH2,kH3,kH0,kG9,List.foldl_cons,List.foldl_nil,Nat.reduceLT,Nat.reduceMod,Nat.reduceDiv,Nat.reduceMul,Nat.reduceAdd,Nat.reduceEqDiff,reduceIte,kG8,Act.put,kU9,kG0,kG1];rw[zO,zI];clear zO zI;have H4:Hid (NbQ W9 C s1 T n1 F I tA∧NbQ W9 gL s2 H n2 J e2 (tL n)∧NbQ W9 gH s3 qK n3 qX e3 (tH n)∧Bw w W9∧w.heap.size≤C∧C<gL∧gL<gH):=⟨H3.out.1.later qU,H3.out.2.1.later qU,H3.out.2.2.1.later qU,H3.out.2.2.2.1.trans (qU.mono H3.out.2.2.2.1.size),H3.out.2.2.2.2⟩;clear qU H3 yV yJ
   go_upto_region 11 with fail
   go_cut [53] from 48 to 52 (fun v wx=>v=.bool (!pn && !qn)∧wx=W9)
   case first =>
    cases pn <;> cases qn
    all_goals
     go_wp2_with fail
     go_meet
     exact⟨rfl,rfl⟩
   case rest =>
   obtain⟨rfl,rfl⟩:=hcut;obtain⟨st,zB⟩:=eE (!pn && !qn);rw[←zB];have zU:Hid (st=(!pn && !qn)):=zB;clear zB;rcases(by cases st <;> simp:st=true∨st=false)with hE|hE
   ·subst hE;have qN:Hid (n<N):=(by
     obtain⟨I,e2⟩:=qR.out;have e3:=zU.out;have h1:=hn.out;rcases Int.lt_or_eq_of_le h1.2 with h2|h2
     ·exact h2
     ·exfalso;rw[h2] at I e2;rcases yL.out with h3|h3
      ·rw[h3] at I;rw[I] at e3;exact absurd e3 (by cases qn <;> decide)
      ·rw[h3] at e2;rw[e2] at e3;exact absurd e3 (by cases pn <;> decide):n<N)
    clear qR zU
    go_wp2_with fail;exact⟨⟨n+1,rfl,rfl,(by have:=qN.out;have:=hn.out;exact⟨ω,ω⟩:1≤n+1∧n+1≤N),H4.out.1,H4.out.2.2.2.1,H4.out.2.2.2.2.1⟩,by have:=qN.out;simp[intOf];omega⟩
   ·subst hE;have qN:Hid (n=N):=(by
     obtain⟨I,e2⟩:=qR.out;have e3:=zU.out;have h1:=hn.out;rcases Int.lt_or_eq_of_le h1.2 with h2|h2
     ·exfalso;obtain⟨h3,h4⟩:=yH.out n h1.1 h2;rw[I,e2,h3,h4] at e3;exact absurd e3 δ
     ·exact h2:n=N)
    obtain⟨nv,yU⟩:=eE N;have yG:=qN.out;rw[←yU] at yG yL zF hB yX yY kD hD;subst yG;clear zU yH yU;obtain⟨⟨c0,c1,c2⟩,-⟩:=qQ1 H4.out.2.1.1;obtain⟨V4,zX⟩:=eE (wc.alloc (.cells #[.bool s2,.slice H n2 J,.int .i64 e2] 54));obtain⟨gB,qI⟩:=eE wc.heap.size;have H5:Hid (NbQ V4 C s1 T n1 F I tA∧NbQ V4 gL s2 H n2 J e2 (tL n)∧NbQ V4 gH s3 qK n3 qX e3 (tH n)∧Bw w V4∧w.heap.size≤C∧C<gL∧gL<gH∧NbQ V4 gB s2 H n2 J e2 (tL n)∧gH<gB):=by
     have qY:Bw wc V4:=by rw[zX];exact bR.alloc lR _
     have h4:V4.heap[wc.heap.size]?=some (.cells #[.bool s2,.slice H n2 J,.int .i64 e2] 54 (0,0)):=by rw[zX];exact kB7 _ _
     exact⟨H4.out.1.later qY,H4.out.2.1.later qY,H4.out.2.2.1.later qY,H4.out.2.2.2.1.trans (qY.mono H4.out.2.2.2.1.size),H4.out.2.2.2.2.1,H4.out.2.2.2.2.2.1,H4.out.2.2.2.2.2.2,⟨by rw[qI];exact h4,H4.out.2.1.2.later qY⟩,by rw[qI];exact H4.out.2.2.1.lt⟩
    go_upto_region 13 with fail;rw[←zX,←qI];clear zX qI H4 c0 c1 c2;have H4:=H5;clear H5;refine qJ2 [0,1,2,3,4,5,6,7,8,9] [55,56,57,58,59,60,61,62,63,14] [[],[],[],[0,1,2],[],[],[],[4,5,6],[3,7],[8]] V4 _ [isV (.agg #[.bool s1,.slice T n1 F,.int .i64 I]),isV (.agg #[.bool s2,.slice H n2 J,.int .i64 e2]),isV (.int .i64 (n - 1 - X)),isD (zH),isV (.agg #[.bool s1,.slice T n1 F,.int .i64 I]),isV (.agg #[.bool s3,.slice qK n3 qX,.int .i64 e3]),isV (.int .i64 (n - 1 - X)),isD (zG),isV (.int .i64 c),isV (.int .i64 c)] (by kernel_rfl) ⟨qQ2 _,qQ2 _,qQ2 _,qX9 _,qQ2 _,qQ2 _,qQ2 _,qX9 _,qQ2 _,qQ2 _,trivial⟩ (by show ∀ s ∈ [55,56,57,58,59,60,61,62,63,14],s<108;decide) ?_ ?_
    ·intro j hj o ho act U hb qQ Y;have yP:j<10:=hj;have yQ:act.tmps[(4:Nat)]?=some (Value.pointer (some ⟨C,0,none⟩)):=(qQ 4 δ).trans rfl;have qT:act.tmps[(8:Nat)]?=some (Value.pointer (some ⟨gL,0,none⟩)):=(qQ 8 δ).trans rfl;have qB:act.tmps[(10:Nat)]?=some (Value.pointer (some ⟨gH,0,none⟩)):=(qQ 10 δ).trans rfl;have qL:act.tmps[(7:Nat)]?=some (Value.int .i64 (n - 1 - X)):=(qQ 7 δ).trans rfl;have d4:=(qQ1 (H4.out.1.later hb).1).1;have d8:=(qQ1 (H4.out.2.1.later hb).1).1;have qF:=(qQ1 (H4.out.2.2.1.later hb).1).1;rcases(by omega:j=0∨j=1∨j=2∨j=3∨j=4∨j=5∨j=6∨j=7∨j=8∨j=9)with rfl|rfl|rfl|rfl|rfl|rfl|rfl|rfl|rfl|rfl
     ·obtain rfl:=kF0 ho;exact .inl ⟨rfl,qJ0 rfl yQ d4.1 d4.2.1 d4.2.2 ⟨_,rfl,rfl,kH9 _ _⟩⟩
     ·obtain rfl:=kF0 ho;exact .inl ⟨rfl,qJ0 rfl qT d8.1 d8.2.1 d8.2.2 ⟨_,rfl,rfl,kH9 _ _⟩⟩
     ·obtain rfl:=kF0 ho;exact .inl ⟨rfl,qZ7 rfl qL ⟨_,rfl,rfl,kH9 _ _⟩⟩
     ·obtain rfl:=kF0 ho;have y0:act.tmps[(55:Nat)]?=_:=dV (Y 0 (by simp[dL])) rfl
      have y1:act.tmps[(56:Nat)]?=_:=dV (Y 1 (by simp[dL])) rfl
      have y2:act.tmps[(57:Nat)]?=_:=dV (Y 2 (by simp[dL])) rfl
      refine .inl ⟨rfl,qQ9 rfl (qZ4 Tryz.func85 (by kernel_rfl) (by kernel_rfl)) (vs:=#[.agg #[.bool s1,.slice T n1 F,.int .i64 I],.agg #[.bool s2,.slice H n2 J,.int .i64 e2],.int .i64 (n - 1 - X)]) (by simp[qZ1 y0,qZ1 y1,qZ1 y2]) ?_⟩
      refine(yX.out U _ _ (H4.out.1.later hb).2 (H4.out.2.1.later hb).2).mono ?_
      rintro r w' ⟨s9,qS,n9,qD,e9,rfl,qH,qV⟩;exact⟨_,rfl,_,rfl,qH,qV⟩
     ·obtain rfl:=kF0 ho;exact .inl ⟨rfl,qJ0 rfl yQ d4.1 d4.2.1 d4.2.2 ⟨_,rfl,rfl,kH9 _ _⟩⟩
     ·obtain rfl:=kF0 ho;exact .inl ⟨rfl,qJ0 rfl qB qF.1 qF.2.1 qF.2.2 ⟨_,rfl,rfl,kH9 _ _⟩⟩
     ·obtain rfl:=kF0 ho;exact .inl ⟨rfl,qZ7 rfl qL ⟨_,rfl,rfl,kH9 _ _⟩⟩
     ·obtain rfl:=kF0 ho;have y4:act.tmps[(59:Nat)]?=_:=dV (Y 4 (by simp[dL])) rfl
      have y5:act.tmps[(60:Nat)]?=_:=dV (Y 5 (by simp[dL])) rfl
      have y6:act.tmps[(61:Nat)]?=_:=dV (Y 6 (by simp[dL])) rfl
      refine .inl ⟨rfl,qQ9 rfl (qZ4 Tryz.func85 (by kernel_rfl) (by kernel_rfl)) (vs:=#[.agg #[.bool s1,.slice T n1 F,.int .i64 I],.agg #[.bool s3,.slice qK n3 qX,.int .i64 e3],.int .i64 (n - 1 - X)]) (by simp[qZ1 y4,qZ1 y5,qZ1 y6]) ?_⟩
      refine(yY.out U _ _ (H4.out.1.later hb).2 (H4.out.2.2.1.later hb).2).mono ?_
      rintro r w' ⟨s9,qS,n9,qD,e9,rfl,qH,qV⟩;exact⟨_,rfl,_,rfl,qH,qV⟩
     ·obtain rfl:=kF0 ho;obtain⟨u3,yC,v3⟩:=Y 3 (by simp[dL])
      have y3:act.tmps[(58:Nat)]?=_:=yC;obtain⟨u7,yW,v7⟩:=Y 7 (by simp[dL])
      have y7:act.tmps[(62:Nat)]?=_:=yW;refine .inl ⟨rfl,qQ9 rfl (qZ4 Tryz.func49 (by kernel_rfl) (by kernel_rfl)) (vs:=#[u3,u7]) (by simp[qZ1 y3,qZ1 y7]) ?_⟩
      refine(kO.out U _ _ v3 v7).mono ?_
      rintro r w' ⟨rfl,qV⟩;exact⟨_,rfl,_,rfl,rfl,qV⟩
     ·obtain rfl:=kF0 ho;have y8:act.tmps[(63:Nat)]?=_:=dV (Y 8 (by simp[dL])) rfl
      exact .inl ⟨rfl,qX5 rfl y8 ⟨_,rfl,rfl,kH9 _ _⟩⟩
    ·intro u W9 qU hu;have u9:u 9=.int .i64 c:=hu 9 (by show 9<10;decide)
     clear hu;simp only[putL,show List.range 10 = [0,1,2,3,4,5,6,7,8,9] from rfl,kG2,kG3,kG4,kG5,kH2,kH3,kH0,kG9,List.foldl_cons,List.foldl_nil,Nat.reduceLT,Nat.reduceMod,Nat.reduceDiv,Nat.reduceMul,Nat.reduceAdd,Nat.reduceEqDiff,reduceIte,kG8,Act.put,kU9,kG0,kG1];rw[u9];clear u9;have H5:Hid (NbQ W9 C s1 T n1 F I tA∧NbQ W9 gL s2 H n2 J e2 (tL n)∧NbQ W9 gH s3 qK n3 qX e3 (tH n)∧Bw w W9∧w.heap.size≤C∧C<gL∧gL<gH∧NbQ W9 gB s2 H n2 J e2 (tL n)∧gH<gB):=⟨H4.out.1.later qU,H4.out.2.1.later qU,H4.out.2.2.1.later qU,H4.out.2.2.2.1.trans (qU.mono H4.out.2.2.2.1.size),H4.out.2.2.2.2.1,H4.out.2.2.2.2.2.1,H4.out.2.2.2.2.2.2.1,H4.out.2.2.2.2.2.2.2.1.later qU,H4.out.2.2.2.2.2.2.2.2⟩;clear qU H4;have HC:Hid ((pn=false→up=true)∧(pn=true→qn=false→up=false)∧(pn=true→qn=true→(0<c∧up=true)∨(c=0∧up=od)∨(c<0∧up=false))):=by
      rw[qR.out.1,qR.out.2];exact zF.out
     clear qR zF
     go_upto_region 14 with fail
     go_cut [13,80] from 11 to 79 (fun xZ v wx=>xZ=Value.pointer (some ⟨gB,0,none⟩)∧v=.bool up∧Hid (NbQ wx C s1 T n1 F I tA∧NbQ wx gL s2 H n2 J e2 (tL n)∧NbQ wx gH s3 qK n3 qX e3 (tH n)∧Bw w wx∧w.heap.size≤C∧C<gL∧gL<gH∧NbQ wx gB s2 H n2 J e2 (tL n)∧gH<gB))
     case first =>
      rcases(by cases pn <;> simp:pn=false∨pn=true)with I|I
      ·have e3:=HC.out.1 I;subst I e3;clear HC
       go_wp2_with fail
       go_meet
       exact⟨rfl,rfl,H5⟩
      ·rcases(by cases qn <;> simp:qn=false∨qn=true)with e2|e2
       ·have e3:=HC.out.2.1 I e2;subst I e2 e3;clear HC
        go_wp2_with fail
        go_meet
        exact⟨rfl,rfl,H5⟩
       ·have e4:=HC.out.2.2 I e2;subst I e2;clear HC;rcases e4 with ⟨hc,rfl⟩|⟨rfl,rfl⟩|⟨hc,rfl⟩
        ·go_wp2_with fail
         go_meet
         exact⟨rfl,rfl,H5⟩
        ·obtain⟨⟨c0,c1,c2⟩,-⟩:=qQ1 H5.out.2.1.1;have q1:=kD.out W9 _ H5.out.2.1.2;cases up
         all_goals
          go_wp2_with fail;refine q1.mono ?_;rintro r wq ⟨rfl,qM⟩;have H6:Hid (NbQ wq C s1 T n1 F I tA∧NbQ wq gL s2 H n2 J e2 (tL n)∧NbQ wq gH s3 qK n3 qX e3 (tH n)∧Bw w wq∧w.heap.size≤C∧C<gL∧gL<gH∧NbQ wq gB s2 H n2 J e2 (tL n)∧gH<gB):=⟨H5.out.1.later qM,H5.out.2.1.later qM,H5.out.2.2.1.later qM,H5.out.2.2.2.1.trans (qM.mono H5.out.2.2.2.1.size),H5.out.2.2.2.2.1,H5.out.2.2.2.2.2.1,H5.out.2.2.2.2.2.2.1,H5.out.2.2.2.2.2.2.2.1.later qM,H5.out.2.2.2.2.2.2.2.2⟩;clear q1 qM H5 c0 c1 c2
          go_wp2_with fail
          go_meet
          exact⟨rfl,rfl,H6⟩
        ·have xN:¬ (0:Int)<c:=ω;have xB:(c==0)=false:=by rw[kN2];omega
         clear hc
         go_wp2_with fail
         go_meet
         exact⟨rfl,rfl,H5⟩
     case rest =>
     obtain⟨rfl,rfl,H6⟩:=hcut;clear HC H5;rcases(by cases up <;> simp:up=true∨up=false)with hE|hE
     ·subst hE;have zT:=hB.out.1 rfl;subst zT;obtain⟨⟨c0,c1,c2⟩,-⟩:=qQ1 H6.out.2.2.1.1;obtain⟨⟨d0,d1,d2⟩,f0,f1,f2⟩:=qQ1 H6.out.2.2.2.2.2.2.2.1.1;obtain⟨V5,zD⟩:=eE (((wc.setCell ⟨gB,0,none⟩ (.bool s3)).setCell ⟨gB,1,none⟩ (.slice qK n3 qX)).setCell ⟨gB,2,none⟩ (.int .i64 e3));have H7:Hid (NbQ V5 gB s3 qK n3 qX e3 (tH n)∧Bw w V5):=by
       rw[zD];exact⟨H6.out.2.2.2.2.2.2.2.1.put H6.out.2.2.1.2,qQ4 H6.out.2.2.2.1 (by have:=H6.out;omega) _ _ _⟩
      go_upto_region 16 with fail;rw[←zD];clear zD H6 c0 c1 c2 d0 d1 d2 f0 f1 f2;obtain⟨⟨c0,c1,c2⟩,-⟩:=qQ1 H7.out.1.1;have q1:=yK.out V5 _ H7.out.1.2;rw[←qZ.out] at q1
      go_wp2_with fail;refine q1.mono ?_;rintro r w5 ⟨rfl,qC⟩;have H8:Hid (Bw w w5):=H7.out.2.trans (qC.mono H7.out.2.size);clear q1 qC H7 c0 c1 c2;have g1:=zV.out z;obtain⟨k1,k2,k3,-⟩:=hD.out;have k4:=qP.out;have k5:=qN.out;obtain⟨L,hL⟩:=eE (D.length+z);rw[←hL] at g1 k2 k3;have u4:IntKind.i64.wrap (X+(L:Int))=X+(L:Int):=by rw[kB5];omega
      have u5:IntKind.i64.wrap (X+(L:Int) - n)=X2:=by rw[kB5];omega
      clear hL k1 k2 k3 k4 k5
      go_upto_region 18 with fail;clear u4 u5 g1
      go_loopg [15] z (fun g v wr=>g≤z∧v=.string (Sy g)∧wr=w5)
      case atStart=>exact⟨kH8 _,rfl,rfl⟩
      case round =>
       obtain⟨qW,rfl,rfl⟩:=hrel;have HG:Hid (gk≤z):=qW;clear qW;have g1:=zV.out gk;obtain⟨M,hM⟩:=eE (D.length+gk);have HM:Hid (M=D.length+gk∧1≤D.length∧M≤1000):=by have:=HG.out;obtain⟨k1,k2,-,-⟩:=hD.out;exact⟨hM,k1,ω⟩
       rw[←hM] at g1;clear hM;obtain⟨k,hk⟩:∃ k:Nat,k=M - 1:=⟨_,rfl⟩;have HK:Hid (k=M - 1):=hk;have u4:IntKind.i64.wrap ((M:Int) - 1)=(k:Int):=by have:=HM.out;rw[kB5];omega
       clear hk;have xV:(0:Int)≤(k:Int):=ω;have xJ:k<M:=by have:=HM.out;have:=HK.out;omega
       have yB:(k:Int)<(M:Int):=ω;have yF:(k:Int)≤(M:Int):=ω;by_cases qJ:gk=0
       ·by_cases zR:(1:Int)<(M:Int)
        ·obtain⟨b,hb⟩:∃ b:Nat,b=bL (D++List.replicate gk 48) k:=⟨_,rfl⟩;have hg:∀ (h:k<(Sy gk).size),((Sy gk)[k]'h).toNat=b:=by
          intro h;rw[hb];have:=zQ9 (D++List.replicate gk 48) k (by rw[←qZ.out];exact h)
          simp only[qZ.out];exact this
         have yT:((b:Int)==48)=false:=by
          rw[kN2];intro h9;have zE:D.getLast?=some (D[k]'(by have:=HM.out;omega)):=by
           rw[List.getLast?_eq_getElem?];have:=HM.out
           have:=HK.out
           rw[show D.length - 1=k by omega]
           exact List.getElem?_eq_getElem _
          have zC:=hD.out.2.2.2 _ zE;apply zC
          have zW:b=(D[k]'(by have:=HM.out;omega)).toNat:=by
           have zL:D++List.replicate gk 48=D:=by rw[qJ];simp
           rw[hb,zL];unfold bL;rw[List.getElem?_eq_getElem (by have:=HM.out;omega)]
           rfl
          apply UInt8.toNat_inj.1
          rw[←zW];show b=48
          omega
         have qG:Hid (gk=0):=qJ;clear hb qJ
         go_wp2_with fail
         go_ret2
         exact⟨by rw[qZ.out,qG.out];simp,H8.out⟩
        ·have qG:Hid (gk=0):=qJ;clear qJ
         go_wp2_with fail
         go_ret2
         exact⟨by rw[qZ.out,qG.out];simp,H8.out⟩
       ·have zR:(1:Int)<(M:Int):=by have:=HM.out;omega
        have hg:∀ (h:k<(Sy gk).size),((Sy gk)[k]'h).toNat=48:=by
         intro h;have I:=zQ9 (D++List.replicate gk 48) k (by rw[←qZ.out];exact h)
         simp only[qZ.out];rw[I];unfold bL;have:=HM.out
         have:=HK.out
         rw[List.getElem?_append_right ω,List.getElem?_replicate,kU6 ω];rfl
        have et:(Sy gk).extract 0 k=Sy (gk - 1):=by
         rw[qZ.out,qZ.out,qK0];have:=HM.out
         have:=HK.out
         congr 2
         rw[List.take_append,List.take_of_length_le ω,List.take_replicate];congr 2
         omega
        have qG:Hid (gk≠0):=qJ;clear qJ
        go_wp2_with fail
        go_roundg (gk - 1)
        case measure=>have:=qG.out;omega
        case rel=>exact⟨by have:=HG.out;omega,rfl,rfl⟩
     ·subst hE;have zT:=hB.out.2 rfl;subst zT;have H7:Hid (NbQ wc gB s2 H n2 J e2 (tL n)∧Bw w wc):=⟨H6.out.2.2.2.2.2.2.2.1,H6.out.2.2.2.1⟩;clear H6
      go_upto_region 16 with fail;obtain⟨⟨c0,c1,c2⟩,-⟩:=qQ1 H7.out.1.1;have q1:=yK.out wc _ H7.out.1.2;rw[←qZ.out] at q1
      go_wp2_with fail;refine q1.mono ?_;rintro r w5 ⟨rfl,qC⟩;have H8:Hid (Bw w w5):=H7.out.2.trans (qC.mono H7.out.2.size);clear q1 qC H7 c0 c1 c2;have g1:=zV.out z;obtain⟨k1,k2,k3,-⟩:=hD.out;have k4:=qP.out;have k5:=qN.out;obtain⟨L,hL⟩:=eE (D.length+z);rw[←hL] at g1 k2 k3;have u4:IntKind.i64.wrap (X+(L:Int))=X+(L:Int):=by rw[kB5];omega
      have u5:IntKind.i64.wrap (X+(L:Int) - n)=X2:=by rw[kB5];omega
      clear hL k1 k2 k3 k4 k5
      go_upto_region 18 with fail;clear u4 u5 g1
      go_loopg [15] z (fun g v wr=>g≤z∧v=.string (Sy g)∧wr=w5)
      case atStart=>exact⟨kH8 _,rfl,rfl⟩
      case round =>
       obtain⟨qW,rfl,rfl⟩:=hrel;have HG:Hid (gk≤z):=qW;clear qW;have g1:=zV.out gk;obtain⟨M,hM⟩:=eE (D.length+gk);have HM:Hid (M=D.length+gk∧1≤D.length∧M≤1000):=by have:=HG.out;obtain⟨k1,k2,-,-⟩:=hD.out;exact⟨hM,k1,ω⟩
       rw[←hM] at g1;clear hM;obtain⟨k,hk⟩:∃ k:Nat,k=M - 1:=⟨_,rfl⟩;have HK:Hid (k=M - 1):=hk;have u4:IntKind.i64.wrap ((M:Int) - 1)=(k:Int):=by have:=HM.out;rw[kB5];omega
       clear hk;have xV:(0:Int)≤(k:Int):=ω;have xJ:k<M:=by have:=HM.out;have:=HK.out;omega
       have yB:(k:Int)<(M:Int):=ω;have yF:(k:Int)≤(M:Int):=ω;by_cases qJ:gk=0
       ·by_cases zR:(1:Int)<(M:Int)
        ·obtain⟨b,hb⟩:∃ b:Nat,b=bL (D++List.replicate gk 48) k:=⟨_,rfl⟩;have hg:∀ (h:k<(Sy gk).size),((Sy gk)[k]'h).toNat=b:=by
          intro h;rw[hb];have:=zQ9 (D++List.replicate gk 48) k (by rw[←qZ.out];exact h)
          simp only[qZ.out];exact this
         have yT:((b:Int)==48)=false:=by
          rw[kN2];intro h9;have zE:D.getLast?=some (D[k]'(by have:=HM.out;omega)):=by
           rw[List.getLast?_eq_getElem?];have:=HM.out
           have:=HK.out
           rw[show D.length - 1=k by omega]
           exact List.getElem?_eq_getElem _
          have zC:=hD.out.2.2.2 _ zE;apply zC
          have zW:b=(D[k]'(by have:=HM.out;omega)).toNat:=by
           have zL:D++List.replicate gk 48=D:=by rw[qJ];simp
           rw[hb,zL];unfold bL;rw[List.getElem?_eq_getElem (by have:=HM.out;omega)]
           rfl
          apply UInt8.toNat_inj.1
          rw[←zW];show b=48
          omega
         have qG:Hid (gk=0):=qJ;clear hb qJ
         go_wp2_with fail
         go_ret2
         exact⟨by rw[qZ.out,qG.out];simp,H8.out⟩
        ·have qG:Hid (gk=0):=qJ;clear qJ
         go_wp2_with fail
         go_ret2
         exact⟨by rw[qZ.out,qG.out];simp,H8.out⟩
       ·have zR:(1:Int)<(M:Int):=by have:=HM.out;omega
        have hg:∀ (h:k<(Sy gk).size),((Sy gk)[k]'h).toNat=48:=by
         intro h;have I:=zQ9 (D++List.replicate gk 48) k (by rw[←qZ.out];exact h)
         simp only[qZ.out];rw[I];unfold bL;have:=HM.out
         have:=HK.out
         rw[List.getElem?_append_right ω,List.getElem?_replicate,kU6 ω];rfl
        have et:(Sy gk).extract 0 k=Sy (gk - 1):=by
         rw[qZ.out,qZ.out,qK0];have:=HM.out
         have:=HK.out
         congr 2
         rw[List.take_append,List.take_of_length_le ω,List.take_replicate];congr 2
         omega
        have qG:Hid (gk≠0):=qJ;clear qJ
        go_wp2_with fail
        go_roundg (gk - 1)
        case measure=>have:=qG.out;omega
        case rel=>exact⟨by have:=HG.out;omega,rfl,rfl⟩
theorem kQ2 {a:Nat} (h:mag a≠0):fU a≠0:=by
 have u:=Ie.mant_ne (a:=a) h;unfold fU;exact Nat.ne_of_gt (Nat.mul_pos ω (kF3 _))
theorem xF5 {a:Nat} (Y:a<18446744073709551616) (V:mag a≤9218868437227405312):(FloatKind.f64.format.order a 0==some Ordering.eq)=decide (mag a=0):=by
 have o:=qA0 a 0 Y δ;have J:qY9 a=false:=by unfold qY9;exact kF1 ω
 have u:stp a=if neg a then -(mag a:Int) else(mag a:Int):=by unfold stp sgn;rfl
 unfold eq at o;rw[J,show stp 0=0 by decide] at o
 rw[o];by_cases h:mag a=0
 ·rw[kF2 h,kF2 (by rw[u];split <;> omega)]
  rfl
 ·rw[kF1 h,kF1 (by rw[u];split <;> omega)]
  simp
theorem zV4 {x:Int} (h : -5000≤x∧x≤5000):(Lib.itoa x).length≤100:=by
 have:=Lib.itoa_length_le x ω ω
 omega
theorem xR9 (s:Bool):(if s then(⟨#[45]⟩:ByteArray) else⟨#[]⟩)=⟨(sgL s []).toArray⟩∧(sgL s []).length≤1:=by cases s <;> exact⟨rfl,δ⟩
theorem zS0 (s:Bool) (t:List UInt8):sgL s []++t=sgL s t:=by cases s <;> rfl
theorem yU6 {N:Nat} (h:N≠0):∀ j,dcR (N*10^j)=dcR N++List.replicate j 48
 | 0=>by simp
 | j+1=>by
  have Y:0<10^j:=kH1 δ;have u:N*10^(j+1)=N*10^j*10:=by rw[kN5,kN6]
  have J:N*10^j≠0:=Nat.mul_ne_zero h ω;rw[u,qT0 ω,Nat.mul_div_cancel _ δ,yU6 h j,Nat.mul_mod_left,List.replicate_succ',List.append_assoc];rfl
theorem qS0 (L:List UInt8):∀ j,Lib.trimRightB (L++List.replicate j 48) 48=Lib.trimRightB L 48
 | 0=>by simp
 | j+1=>by
  rw[List.replicate_succ',←List.append_assoc];have h:=qS0 L j;unfold Lib.trimRightB at *;rw[List.reverse_append];simp
theorem qE0 (L:List UInt8):∃ z,L=Lib.trimRightB L 48++List.replicate z 48∧∀ x,(Lib.trimRightB L 48).getLast?=some x→x≠48:=by
 refine⟨(L.reverse.takeWhile (· == 48)).length,?_,?_⟩
 ·have H:=List.takeWhile_append_dropWhile (p:=(· == (48:UInt8))) (l:=L.reverse);have V:L.reverse.takeWhile (· == (48:UInt8))=List.replicate (L.reverse.takeWhile (· == (48:UInt8))).length 48:=by
   rw[List.eq_replicate_iff];refine⟨rfl,fun b Y=>?_⟩
   have:=List.all_takeWhile (p:=(· == (48:UInt8))) (l:=L.reverse)
   have u:=List.all_eq_true.1 this b Y;simpa using u
  unfold Lib.trimRightB;have u:=kU7 List.reverse H;rw[List.reverse_append,List.reverse_reverse] at u;conv=>lhs;rw[←u]
  generalize List.takeWhile (fun x=>x==(48:UInt8)) L.reverse=t at *;congr 1
  rw[V];simp
 ·intro x hx;unfold Lib.trimRightB at hx;rw[List.getLast?_reverse] at hx;have h:=List.head?_dropWhile_not (· == (48:UInt8)) L.reverse;rw[hx] at h;intro J;rw[J] at h;exact absurd h δ
theorem yN8:∀ N:Nat,N≠0→1≤(Lib.trimRightB (dcR N) 48).length:=by
 intro N;induction N using Nat.strongRecOn with
 | ind N ih =>
  intro h;rw[qT0 h];by_cases F:N % 10=0
  ·rw[F];have V:=qS0 (dcR (N / 10)) 1;rw[show List.replicate 1 (48:UInt8) = [UInt8.ofNat (48+0)] from rfl] at V;rw[V];exact ih (N / 10) ω ω
  ·obtain⟨c,J⟩:=eE (UInt8.ofNat (48+N % 10));have u:(c==(48:UInt8))=false:=by
    rw[kN2,J];intro H;have Y:=kU7 UInt8.toNat H;rw[UInt8.toNat_ofNat'] at Y;have:(48:UInt8).toNat=48:=rfl
    omega
   rw[←J];unfold Lib.trimRightB;rw[List.reverse_append,List.reverse_singleton,List.singleton_append,List.dropWhile_cons,u];simp
theorem zV3 {a i:Nat} (hi:i≤16) (u:0<a) (h:a<9218868437227405312):loD a i≠0:=by
 have J:=qA1 hi u h;obtain⟨F,-⟩:=xY0 u h;obtain⟨T,D⟩:=fwG (i:=i) h;have H:=zT0 i;have V:=qD2 i;intro Y;rw[Y,Nat.zero_mul] at J;omega
theorem xO6 {a:Nat} (u:0<a) (h:a<9218868437227405312):fU a≠0:=kQ2 (by unfold mag;omega)
theorem lo_b {a i:Nat} (hi:i≤16) (Y : -2000≤(i:Int) - shX a∧(i:Int) - shX a≤2000) (V:0<a) (h:a<9218868437227405312):loD a i<2^(bU+hT8)∧loD a i+1<2^(bU+hT8+1)∧hiD a i<2^(bU+hT8+1)∧hiD a i≠0:=by
 obtain⟨k1,u,-⟩:=zS1 (qI9 a) Y;have J:=zV3 hi V h;refine⟨k1,u,?_,?_⟩
 ·unfold hiD;split
  ·exact Nat.lt_trans (Nat.lt_succ_self _) u
  ·exact u
 ·unfold hiD;split
  ·exact J
  ·exact Nat.succ_ne_zero _
theorem bs_b {a:Nat} (u:loD a (shJ a)+1<2^(bU+hT8+1)) (Y:loD a (shJ a)≠0):bsD a<2^(bU+hT8+1)∧bsD a≠0:=by
 unfold bsD;split
 ·exact⟨Nat.lt_trans (Nat.lt_succ_self _) u,Y⟩
 ·exact⟨u,Nat.succ_ne_zero _⟩
theorem yQ4 {a:Nat} (u:bsD a≠0) (W:0<a) (h:a<9218868437227405312):∃ z,dcD (bsD a)=shD a++List.replicate z 48∧1≤(shD a).length∧(shD a).length+z≤1000∧shX a+((shD a).length+z:Nat) - ((shJ a:Int)+1)=shE a∧(∀ x,(shD a).getLast?=some x→x≠48):=by
 have I:=qE3 a;obtain⟨z,Y,J⟩:=qE0 (dcR (bsD a));have D:shF a=bsD a*10^(16 - shJ a):=xY1 W h;have F:dcT (shF a)=dcR (bsD a)++List.replicate (16 - shJ a) 48:=by rw[yU5,D,yU6 u]
 have L:shD a=Lib.trimRightB (dcR (bsD a)) 48:=by unfold shD;rw[F,qS0]
 have V:=yN8 (bsD a) u;have C:=zX1 (shOk W h);have T:shE a=(dcT (shF a)).length - 1 - (16 - shX a):=rfl;have e:dcD (bsD a)=dcR (bsD a):=by unfold dcD;rw[kU5 u]
 rw[←L] at Y J V;have H:=kU7 List.length Y;rw[F,kM0,List.length_replicate] at C T;rw[kM0,List.length_replicate] at H;rw[e];clear e L F D u h;refine⟨z,Y,V,ω,?_,J⟩
 rw[T];omega
theorem xX0 {Q r low:Nat} {ex p q A up od:Bool} {c:Int} (L:r<Q) (hx:ex=true→p=true∧q=true∧r=0) (T:A=decide (Q<2*r∨(2*r=Q∧low % 2=1)))
  (Y:c=cmpI ((r:Nat):Int) (((if ex then r else Q - r):Nat):Int)) (J:od=decide (low % 2=1)) (u:up=(!p||(q&&(decide (0<c)||(decide (c=0)&&od))))) :
  ((p=false→up=true)∧(p=true→q=false→up=false)∧(p=true→q=true→(0<c∧up=true)∨(c=0∧up=od)∨(c<0∧up=false)))∧(ex=false→(up=true↔(p=false∨(q=true∧A=true)))):=by
 refine⟨⟨fun h=>by rw[u,h];rfl,fun F H=>by rw[u,F,H];rfl,fun F H=>?_⟩,fun D=>?_⟩
 ·rw[F,H] at u;rcases Int.lt_trichotomy c 0 with h|h|h
  ·refine .inr (.inr ⟨h,?_⟩);rw[u,kF1 ω,kF1 ω];rfl
  ·refine .inr (.inl ⟨h,?_⟩);rw[u,kF1 ω,kF2 h];cases od <;> rfl
  ·refine .inl ⟨h,?_⟩;rw[u,kF2 h];rfl
 ·rw[D,kU5 δ] at Y;have V:A=(decide (0<c)||(decide (c=0)&&od)):=by
   rw[T,J,Bool.eq_iff_iff];simp only[Bool.or_eq_true,kB9,decide_eq_true_iff];rcases qY2 ((r:Nat):Int) ((Q - r:Nat):Int)with ⟨g1,g2⟩|⟨g1,g2⟩|⟨g1,g2⟩
   ·rw[Y,g2];omega
   ·rw[Y,g2];omega
   ·rw[Y,g2];omega
  rw[u,←V];cases p <;> cases q <;> cases A <;> simp
theorem zC6 {a:Nat} (F:0<a) (h:a<9218868437227405312) (w:World) :
  Ca 28 #[.float .f64 a] w (Rq w (.tuple #[.string ⟨(shD a).toArray⟩,iV (shE a)])):=by
 have hA:=qI9 a;have qJ:=xO6 F h;have hw : -400≤shX a∧shX a≤400:=(qW5 hA qJ).2.2;have hJ:=qE3 a;have ha:a<18446744073709551616:=ω;have qF:bU+hT8≤12000∧bU+hT8+1≤12000∧bU+hT8≤40000∧bU+hT8+1≤40000∧bU+hT8+1≤59000∧bU+hT8≤20000∧bU+hT8+1≤20000∧bU+hT8≤60000∧bU+hT8≤90000∧hT8+bU≤90000:=by have hb:=qF2;have h8:=zU3;omega
 obtain⟨l1,l2,l3,l4,l5,l6,l7,l8,l9,qX⟩:=qF;have hk:∀ i:Nat,i≤16 → -2000≤(i:Int) - shX a∧(i:Int) - shX a≤2000:=fun i hi=>by omega
 have ix:∀ n:Int,1≤n→n≤(shJ a:Int)+1→(n - 1).toNat≤16∧n - 1 - shX a=((n - 1).toNat:Int) - shX a∧(n<(shJ a:Int)+1→(n - 1).toNat<shJ a):=fun n T D=>by omega
 have qB : -1000≤shX a∧shX a≤1000∧1≤(shJ a:Int)+1∧(shJ a:Int)+1≤20:=ω;have eJ:((shJ a:Int)+1 - 1).toNat=shJ a:=ω;have eK:(shJ a:Int)+1 - 1 - shX a=(shJ a:Int) - shX a:=ω;clear hw;have V:∀ i,i≤16→loD a i<2^(bU+hT8)∧loD a i+1<2^(bU+hT8+1)∧hiD a i<2^(bU+hT8+1)∧hiD a i≠0:=fun i hi=>lo_b hi (hk i hi) F h;obtain⟨qH,qG⟩:=bs_b (V _ hJ).2.1 (zV3 hJ F h);obtain⟨z,z1,z2,z3,z4,z5⟩:=yQ4 qG F h;obtain⟨p,hp⟩:∃ p:Int→Bool,p=fun n=>decide (shL a≤fwL (shT a) (n - 1).toNat):=⟨_,rfl⟩;obtain⟨q,hq⟩:∃ q:Int→Bool,q=fun n=>if exD a (n - 1).toNat then p n else decide (fwL (shT a) (n - 1).toNat+fwU (n - 1).toNat≤shH a):=⟨_,rfl⟩;have qZ:∀ n,p n=decide (shL a≤fwL (shT a) (n - 1).toNat):=fun n=>by rw[hp]
 have qY:∀ n,q n=if exD a (n - 1).toNat then p n else decide (fwL (shT a) (n - 1).toNat+fwU (n - 1).toNat≤shH a):=fun n=>by rw[hq]
 clear hp hq;obtain⟨c,hc⟩:∃ c:Int,c=cmpI (((frD (fU a) (loD a (shJ a)) ((shJ a:Int) - shX a)).natAbs:Nat):Int) (((frD (fU a) (hiD a (shJ a)) ((shJ a:Int) - shX a)).natAbs:Nat):Int):=⟨_,rfl⟩;obtain⟨od,qK⟩:=eE (decide (loD a (shJ a) % 2=1));obtain⟨up,qU⟩:=eE (!p ((shJ a:Int)+1)||(q ((shJ a:Int)+1)&&(decide (0<c)||(decide (c=0)&&od))));obtain⟨j1,j2⟩:=yM1 F h;have C:=qZ ((shJ a:Int)+1);have qQ:=qY ((shJ a:Int)+1);rw[eJ] at C qQ;obtain⟨qV,qM,qN⟩:=V _ hJ;obtain⟨b1,b2,b3⟩:=zS1 hA (hk _ hJ);obtain⟨f1,f2⟩:=xO3 (fU a) ((shJ a:Int) - shX a);obtain⟨-,r2⟩:=yZ0 (fU a) ((shJ a:Int) - shX a);have e1:(frD (fU a) (loD a (shJ a)) ((shJ a:Int) - shX a)).natAbs=scR (fU a) ((shJ a:Int) - shX a):=f1;have e2:(frD (fU a) (hiD a (shJ a)) ((shJ a:Int) - shX a)).natAbs=if exD a (shJ a)then scR (fU a) ((shJ a:Int) - shX a)else tnU ((shJ a:Int) - shX a)*kU - scR (fU a) ((shJ a:Int) - shX a):=by
  unfold hiD;split
  ·exact f1
  ·exact f2
 have r3:(if exD a (shJ a)then scR (fU a) ((shJ a:Int) - shX a)else tnU ((shJ a:Int) - shX a)*kU - scR (fU a) ((shJ a:Int) - shX a))≤tnU ((shJ a:Int) - shX a)*kU:=by
  split
  ·exact kM8 r2
  ·exact Nat.sub_le _ _
 obtain⟨U1,U2⟩:=xX0 (ex:=exD a (shJ a)) (p:=p ((shJ a:Int)+1)) (q:=q ((shJ a:Int)+1)) (A:=shA a) (up:=up) (od:=od) (c:=c) r2 (fun H=>by
  obtain⟨g1,g2⟩:=yR6 hJ F h H;have g3:p ((shJ a:Int)+1)=true:=by rw[C];exact kF2 g1
  exact⟨g3,by rw[qQ,kU6 H];exact g3,g2⟩) (yQ9 hJ F h) (by rw[hc,e1,e2]) qK qU
 refine zG2 a (shX a) ((shJ a:Int)+1) (shE a) (un ((fU a:Nat):Int) 1074) (un 1 0) (un (((frD (fU a) (loD a (shJ a)) ((shJ a:Int) - shX a)).natAbs:Nat):Int) 1074) (un (((frD (fU a) (hiD a (shJ a)) ((shJ a:Int) - shX a)).natAbs:Nat):Int) 1074) (un ((bsD a:Nat):Int) 0) (fun n=>un ((loD a (n - 1).toNat:Nat):Int) 0) (fun n=>un ((loD a (n - 1).toNat+1:Nat):Int) 0) (fun n=>un ((hiD a (n - 1).toNat:Nat):Int) 0) (fun n=>exD a (n - 1).toNat) p q (fun n=>bkF (loD a (n - 1).toNat) (n - 1 - shX a)) (fun n=>bkF (hiD a (n - 1).toNat) (n - 1 - shX a)) c od up (shD a) [] z w ?_ ?_ ?_ ?_ ?_ ?_ ?_ ?_ ?_ ?_ ?_ ?_ ?_ ?_ ?_ ?_ ?_ ?_ ?_ ?_
 ·exact qB
 ·intro n;refine⟨fun h=>?_,fun h=>?_⟩
  ·show un ((hiD a (n - 1).toNat:Nat):Int) 0=un ((loD a (n - 1).toNat:Nat):Int) 0
   unfold hiD;rw[kU6 h]
  ·show un ((hiD a (n - 1).toNat:Nat):Int) 0=un ((loD a (n - 1).toNat+1:Nat):Int) 0
   unfold hiD;rw[kU5 (by rw[h];decide)]
 ·exact fun W=>yT3 ha W
 ·exact fun W X' u=>xB5 hA qJ u
 ·intro n T D W X' u;obtain⟨J,L,i3⟩:=ix n T D;have:=zT6 hA (hk _ J) u
  rw[←L] at this;show Calls _ _ _ _ fun r w'=>OutS W (un ((loD a (n - 1).toNat:Nat):Int) 0) (exD a (n - 1).toNat) r w'
  unfold loD exD;rw[←L];exact this
 ·exact fun W=>(qA4 (n:=1) δ W).mono fun r w' h=>outQ h
 ·intro n T D W X' Y u I;obtain⟨J,L,i3⟩:=ix n T D;have h:=xI5 (qG3 (p:=0) (qY4 (V _ J).1) l9 δ) (qG3 (p:=0) (show((1:Int)).natAbs<2^1 by decide) δ δ) u I (.inl (by rw[yE1,show((1:Int))=((1:Nat):Int)from rfl,yE1]))
  rw[xH5] at h;exact h.mono fun r w' h=>outQ h
 ·intro n T D W X' u;obtain⟨J,L,i3⟩:=ix n T D;exact yO7 (zV3 J F h) (V _ J).1 l3 (by rw[L];exact hk _ J) u
 ·intro n T D W X' u;obtain⟨J,L,i3⟩:=ix n T D;exact yO7 (V _ J).2.2.2 (V _ J).2.2.1 l4 (by rw[L];exact hk _ J) u
 ·intro n T D;obtain⟨J,L,i3⟩:=ix n T D;have e1:=kJ4 (a:=a) (zV3 J F h) (V _ J).1 l3 (hk _ J) F h;have e2:=kJ4 (a:=a) (V _ J).2.2.2 (V _ J).2.2.1 l4 (hk _ J) F h;rw[kJ3 J F h] at e1;refine⟨?_,?_⟩
  ·rw[L,qZ,Bool.eq_iff_iff,e1,decide_eq_true_iff]
  ·rw[L,qY];by_cases H:exD a (n - 1).toNat=true
   ·rw[kU6 H,qZ,Bool.eq_iff_iff,e2,decide_eq_true_iff];unfold hiD;rw[kU6 H,kJ3 J F h]
   ·rw[kU5 H,Bool.eq_iff_iff,e2,decide_eq_true_iff];unfold hiD;rw[kU5 H,bk_hi J F h]
 ·intro n T D;obtain⟨J,L,i3⟩:=ix n T (Int.le_of_lt D);obtain⟨k1,k2⟩:=j1 (n - 1).toNat (i3 D);have e1:p n=false:=by rw[qZ];exact kF1 k1
  refine⟨e1,?_⟩
  rw[qY];split
  ·exact e1
  ·exact kF1 k2
 ·by_cases H:exD a (shJ a)=true
  ·left
   rw[C];exact kF2 (yR6 hJ F h H).1
  ·rcases j2 with j2|j2
   ·left;rw[C];exact kF2 j2
   ·right;rw[qQ,kU5 H];exact kF2 j2
 ·intro W X' Y u I;rw[eK];rw[eJ] at I;exact kQ8 hA qV l6 (hk _ hJ) u I
 ·intro W X' Y u I;rw[eK];rw[eJ] at I;exact kQ8 hA qN.1 l7 (hk _ hJ) u I
 ·intro W X' Y u I;rw[hc];rw[e1] at u ⊢;rw[e2] at I ⊢;exact zY4 (qY4 (Nat.lt_trans r2 b3)) (qY4 (kF7 r3 b3)) qX qX δ u I
 ·intro W X' u;rw[eJ] at u;rw[qK];exact d4odd qV l8 u
 ·exact U1
 ·show(up=true→un ((bsD a:Nat):Int) 0=un ((hiD a ((shJ a:Int)+1 - 1).toNat:Nat):Int) 0)∧(up=false→un ((bsD a:Nat):Int) 0=un ((loD a ((shJ a:Int)+1 - 1).toNat:Nat):Int) 0)
  rw[eJ];by_cases H:exD a (shJ a)=true
  ·have g1:=(yR6 hJ F h H).1;have g2:bsD a=loD a (shJ a):=by unfold bsD;rw[kU6 ⟨g1,.inl H⟩]
   have g3:hiD a (shJ a)=loD a (shJ a):=by unfold hiD;rw[kU6 H]
   rw[g2,g3];exact⟨fun _=>rfl,fun _=>rfl⟩
  ·have g3:hiD a (shJ a)=loD a (shJ a)+1:=by unfold hiD;rw[kU5 H]
   have g4:=U2 (by simpa using H)
   rw[C,qQ,kU5 H,decide_eq_false_iff_not,decide_eq_true_iff] at g4;rw[g3];constructor
   ·intro hu;have g5:=g4.1 hu;have g2:bsD a=loD a (shJ a)+1:=by
     unfold bsD;rw[kU5];rintro⟨g6,g7|g7⟩
     ·exact H g7
     ·rcases g5 with g5|g5
      ·exact g5 g6
      ·exact g7 g5
    rw[g2]
   ·intro hu;have g2:bsD a=loD a (shJ a):=by
     unfold bsD;rw[kU6];refine⟨Classical.byContradiction fun g6=>?_,.inr fun g6=>?_⟩
     ·rw[g4.2 (.inl g6)] at hu;exact absurd hu δ
     ·rw[g4.2 (.inr g6)] at hu;exact absurd hu δ
    rw[g2]
 ·intro W X' u;have:=zY6 u qH l5
  rw[←z1];exact this
 ·exact⟨z2,z3,z4,z5⟩
theorem zG3 (f:Nat) (t:ByteArray) (w:World)
  (Y:∀ W,Ca 27 #[.float .f64 f] W fun r w'=>r=.returned (.tuple #[.string t,.bool true])∧w'=W) :
  Ca 10 #[.float .f64 f] w fun r w'=>r=.returned (.string t)∧w'=w:=by
 go_enter Tryz.func10,Tryz.ntmps10
 go_wp2_with (go_at_call 27;refine(Y _).mono ?_;rintro r w' ⟨rfl,u⟩;replace u:=u.symm;subst u)
 go_ret;exact⟨rfl,rfl⟩
theorem yG0 (f:Nat) (x:Int) (sg D R:ByteArray) (tA:Bool×Nat×Int) (w:World)
  (kW:∀ W,Ca 27 #[.float .f64 f] W fun r w'=>r=.returned (.tuple #[.string sg,.bool false])∧w'=W)
  (kA:Hid (∀ W,Ca 35 #[.float .f64 f] W fun r w'=>OutQ W tA r w'))
  (kE:Hid (∀ W s ao n cp e,DN W (.agg (Nu s ao n cp e)) tA→x=e))
  (hx:0≤x)
  (kD:Hid (∀ W X,DN W X tA→Ca 36 #[X] W (Rq W (.string D))))
  (qY:sg.size+D.size≤9223372036854775807) (hR:Hid (sg++D=R)) :
  Ca 10 #[.float .f64 f] w (Rq w (.string R)):=by
 have T:=kA.out w
 go_enter Tryz.func10,Tryz.ntmps10
 go_wp2_with (go_at_call 27;refine(kW _).mono ?_;rintro r w' ⟨rfl,hw⟩;replace hw:=hw.symm;subst hw)
 refine T.mono ?_;rintro r w1 ⟨s1,F,n1,H,e1,rfl,Y,J⟩;have qQ:=kE.out w1 s1 F n1 H e1 Y;subst qQ;obtain⟨V,hV⟩:=eE (w1.alloc (.cells (Nu s1 F n1 H x) 54));obtain⟨gA,u⟩:=eE w1.heap.size;have I:Hid (NbQ V gA s1 F n1 H x tA∧Bw w V):=by
  have L:Bw w1 V:=by rw[hV];exact bR.alloc lR _
  exact⟨⟨by rw[hV,u];exact kB7 _ _,Y.later L⟩,J.trans (L.mono J.size)⟩
 clear T Y J kW kA kE
 go_upto_region 5 with fail;rw[←hV,←u];clear hV u;obtain⟨⟨c0,c1,c2⟩,-⟩:=qQ1 I.out.1.1;have T:=kD.out V _ I.out.1.2
 go_wp2_with fail;refine T.mono ?_;rintro r w3 ⟨rfl,C⟩;have qZ:Hid _:=I.out.2.trans (C.mono I.out.2.size);clear T C I c0 c1 c2
 go_wp2_with fail
 go_ret;exact⟨by rw[←hR.out];rfl,qZ.out⟩
theorem yU9 (f:Nat) (x:Int) (sg D R:ByteArray) (tA:Bool×Nat×Int) (w:World)
  (kW:∀ W,Ca 27 #[.float .f64 f] W fun r w'=>r=.returned (.tuple #[.string sg,.bool false])∧w'=W)
  (kA:Hid (∀ W,Ca 35 #[.float .f64 f] W fun r w'=>OutQ W tA r w'))
  (kE:Hid (∀ W s ao n cp e,DN W (.agg (Nu s ao n cp e)) tA→x=e))
  (n:Int) (T:ByteArray) (tT tF tS tN:Bool×Nat×Int) (hx:¬ 0≤x) (hn:IntKind.i64.wrap (-x)=n) (zZ:IntKind.i64.wrap (-n)=x)
  (kT:Hid (∀ W,Ca 38 #[iV n] W fun r w'=>OutQ W tT r w'))
  (zQ:Hid (∀ W X,DN W X tT→Ca 37 #[X,iV x] W fun r w'=>OutQ W tF r w'))
  (qO:Hid (∀ W X,DN W X tA→Ca 37 #[X,iV n] W fun r w'=>OutQ W tS r w'))
  (kM:Hid (∀ W X Y,DN W X tS→DN W Y tF→Ca 39 #[X,Y] W fun r w'=>OutQ W tN r w'))
  (kD:Hid (∀ W X,DN W X tN→Ca 36 #[X] W (Rq W (.string D))))
  (kP:Hid (∀ W,Ca 40 #[.string D,iV n] W (Rq W (.string T))))
  (zV:sg.size+T.size≤9223372036854775807) (hR:Hid (sg++T=R)) :
  Ca 10 #[.float .f64 f] w (Rq w (.string R)):=by
 have q1:=kA.out w
 go_enter Tryz.func10,Tryz.ntmps10
 go_wp2_with (go_at_call 27;refine(kW _).mono ?_;rintro r w' ⟨rfl,hw⟩;replace hw:=hw.symm;subst hw)
 refine q1.mono ?_;rintro r w1 ⟨s1,F,n1,H,e1,rfl,qU,qF⟩;have zY:=kE.out w1 s1 F n1 H e1 qU;subst zY;obtain⟨V,hV⟩:=eE (w1.alloc (.cells (Nu s1 F n1 H x) 54));obtain⟨gA,qJ⟩:=eE w1.heap.size;have H1:Hid (NbQ V gA s1 F n1 H x tA∧Bw w V):=by
  have C:Bw w1 V:=by rw[hV];exact bR.alloc lR _
  exact⟨⟨by rw[hV,qJ];exact kB7 _ _,qU.later C⟩,qF.trans (C.mono qF.size)⟩
 clear q1 qU qF kW kA kE
 go_upto_region 5 with fail;rw[←hV,←qJ];clear hV qJ;obtain⟨⟨c0,c1,c2⟩,-⟩:=qQ1 H1.out.1.1;have q1:=kT.out V
 go_wp2_with fail;refine q1.mono ?_;rintro r w2 ⟨s3,zH,n3,zG,e3,rfl,qS,qH⟩;have H3:Hid _:=And.intro (H1.out.1.later qH) (H1.out.2.trans (qH.mono H1.out.2.size));have q2:=zQ.out w2 _ qS;clear q1 qH qS H1 c0 c1 c2
 go_wp2_with fail;refine q2.mono ?_;rintro r w3 ⟨s2,qX,n2,qZ,e2,rfl,qD,qG⟩;obtain⟨V2,I⟩:=eE (w3.alloc (.cells (Nu s2 qX n2 qZ e2) 54));obtain⟨gF,qK⟩:=eE w3.heap.size;have H2:Hid (NbQ V2 gA s1 F n1 H x tA∧NbQ V2 gF s2 qX n2 qZ e2 tF∧Bw w V2):=by
  have C:Bw w3 V2:=by rw[I];exact bR.alloc lR _
  have hb:=qG.trans (C.mono qG.size);exact⟨H3.out.1.later hb,⟨by rw[I,qK];exact kB7 _ _,qD.later C⟩,H3.out.2.trans (hb.mono H3.out.2.size)⟩
 clear q2 qD qG H3 hn zZ hx
 go_upto_region 9 with fail;rw[←I,←qK];clear I qK;refine qM2 qX2 [0,1,2,3,4] [5] [6] [33,34,35,36,37] [8] [[],[],[0,1],[],[2,3]] [4] 54 (Nu false none 0 0 0) V2 _ [isV (.agg (Nu s1 F n1 H x)),isV (iV n),isD (tS),isV (.agg (Nu s2 qX n2 qZ e2)),isD (tN)] (by kernel_rfl) ⟨qQ2 _,qQ2 _,qX9 _,qQ2 _,qX9 _,trivial⟩ ⟨fun _ _ _ _ _ h=>h,fun _ _ _ _ _ h=>h,zV8 _,fun _ _ _ _ _ h=>h,zV8 _,trivial⟩ (by show ∀ s ∈ [33,34,35,36,37] ++ [8],s<44;decide) ?_ ?_ ?_ zI0 Tryz.info54 ?_ ?_
 ·intro k' hk U u h;obtain rfl:k'=0:=Nat.lt_one_iff.1 hk;obtain⟨s9,qY,n9,qQ,e9,rfl⟩:=DN.shape (show DN U u _ from h);exact⟨_,rfl,rfl,one3 rfl rfl⟩
 ·intro j hj o ho act U hb L J;have zU:j<5:=hj;have qI:act.tmps[(5:Nat)]?=some (Value.pointer (some ⟨gA,0,none⟩)):=(L 5 δ).trans rfl;have qE:act.tmps[(7:Nat)]?=some (Value.pointer (some ⟨gF,0,none⟩)):=(L 7 δ).trans rfl;have qA:act.tmps[(6:Nat)]?=some (iV n):=(L 6 δ).trans rfl;have d5:=(qQ1 (H2.out.1.later hb).1).1;have d7:=(qQ1 (H2.out.2.1.later hb).1).1;rcases(by omega:j=0∨j=1∨j=2∨j=3∨j=4)with rfl|rfl|rfl|rfl|rfl
  ·obtain rfl:=kF0 ho;exact .inl ⟨rfl,qJ0 rfl qI d5.1 d5.2.1 d5.2.2 ⟨_,rfl,rfl,kH9 _ _⟩⟩
  ·obtain rfl:=kF0 ho;exact .inl ⟨rfl,qZ7 rfl qA ⟨_,rfl,rfl,kH9 _ _⟩⟩
  ·obtain rfl:=kF0 ho;have y0:act.tmps[(33:Nat)]?=_:=dV (J 0 (by simp[dL])) rfl
   have y1:act.tmps[(34:Nat)]?=_:=dV (J 1 (by simp[dL])) rfl
   refine .inl ⟨rfl,qQ9 rfl (qZ4 Tryz.func37 (by kernel_rfl) (by kernel_rfl)) (vs:=#[.agg (Nu s1 F n1 H x),iV n]) (by simp[qZ1 y0,qZ1 y1]) ?_⟩
   refine(qO.out U _ (H2.out.1.later hb).2).mono ?_
   rintro r w' ⟨s9,qY,n9,qQ,e9,rfl,qN,qB⟩;exact⟨_,rfl,_,rfl,qN,qB⟩
  ·obtain rfl:=kF0 ho;exact .inl ⟨rfl,qJ0 rfl qE d7.1 d7.2.1 d7.2.2 ⟨_,rfl,rfl,kH9 _ _⟩⟩
  ·obtain rfl:=kF0 ho;obtain⟨u2,qC,v2⟩:=J 2 (by simp[dL])
   have y2:act.tmps[(35:Nat)]?=_:=qC;have y3:act.tmps[(36:Nat)]?=_:=dV (J 3 (by simp[dL])) rfl
   refine .inl ⟨rfl,qQ9 rfl (qZ4 Tryz.func39 (by kernel_rfl) (by kernel_rfl)) (vs:=#[u2,.agg (Nu s2 qX n2 qZ e2)]) (by simp[qZ1 y2,qZ1 y3]) ?_⟩
   refine(kM.out U _ _ v2 (H2.out.2.1.later hb).2).mono ?_
   rintro r w' ⟨s9,qY,n9,qQ,e9,rfl,qN,qB⟩;exact⟨_,rfl,_,rfl,qN,qB⟩
 ·intro k' hk;obtain rfl:k'=0:=Nat.lt_one_iff.1 hk;exact⟨_,rfl,rfl⟩
 ·intro k' hk;obtain rfl:k'=0:=Nat.lt_one_iff.1 hk;exact⟨_,rfl,rfl⟩
 ·intro u g U qR hu hg zX;obtain⟨qW,zK,q0,z0⟩:=hg 0 δ;have q9:DN U (u 4) _:=hu 4 (by show 4<5;decide)
  have qP:u 4=.agg zK:=q0;rw[qP] at q9;obtain⟨s9,qY,n9,qQ,e9,h9⟩:=DN.shape q9;obtain rfl:=Value.agg.inj h9;obtain⟨g9,qV⟩:∃ x,x=g 0:=⟨_,rfl⟩;rw[←qV] at z0 qW;clear hu hg zX q0 qP;simp only[putL,show List.range 5 = [0,1,2,3,4] from rfl,show List.range 1 = [0] from rfl,kG2,kG3,kG4,kG5,kH2,kH3,kH0,kG9,List.foldl_cons,List.foldl_nil,Nat.reduceLT,Nat.reduceMod,Nat.reduceDiv,Nat.reduceMul,Nat.reduceAdd,Nat.reduceEqDiff,reduceIte,kG8,Act.put,kU9,kG0,kG1];rw[←qV];clear qV ;have H4:Hid (NbQ U g9 s9 qY n9 qQ e9 tN∧Bw w U):=⟨⟨z0,q9⟩,H2.out.2.2.trans (qR.mono H2.out.2.2.size)⟩;clear qR z0 q9 H2 qW h9;obtain⟨⟨c0,c1,c2⟩,-⟩:=qQ1 H4.out.1.1;have q1:=kD.out U _ H4.out.1.2
  go_wp2_with fail;refine q1.mono ?_;rintro r w5 ⟨rfl,qL⟩;have qM:Hid _:=H4.out.2.trans (qL.mono H4.out.2.size);have q2:=kP.out w5;clear q1 qL H4 c0 c1 c2
  go_wp2_with fail;refine q2.mono ?_;rintro r w6 ⟨rfl,qT⟩;have zJ:Hid _:=qM.out.trans (qT.mono qM.out.size);clear q2 qT qM
  go_wp2_with fail
  go_ret;exact⟨by rw[←hR.out];rfl,zJ.out⟩
def exT (a:Nat):List UInt8:=if 9218868437227405312<mag a then [110,97,110] else if mag a=9218868437227405312 then sgL (neg a) [105,110,102] else sgL (neg a) (ptL (dcT (uN a (exP a) 2)) (exP a))
theorem xP1 {a:Nat} {w:World} (H:Tab32 w) (F:Ie.Tab w) (Y:a<18446744073709551616) :
  Ca 9 #[.float .f64 a] w (Rq w (.string ⟨(exT a).toArray⟩)):=by
 unfold exT;rcases(by omega:9218868437227405312<mag a∨mag a=9218868437227405312∨mag a<9218868437227405312)with hf|hf|hf
 ·rw[kU6 hf];refine zK7 a _ w ?_;intro W D J L;have u:=fun V=>Ie.c9 a Y V;rw[zM0 hf] at u;refine(qI6 a _ _ W u).mono ?_
  rintro r w' ⟨rfl,rfl⟩;exact⟨rfl,kH9 _ _⟩
 ·rw[kU5 ω,kU6 hf];obtain⟨T,c2⟩:=zM1 hf;refine zK7 a _ w ?_;intro W D J L;have u:=fun V=>Ie.c9 a Y V;rw[T,c2] at u;refine(qI7 a _ _ W u).mono ?_
  rintro r w' ⟨rfl,rfl⟩;exact⟨rfl,kH9 _ _⟩
 ·rw[kU5 ω,kU5 ω];exact xZ2 H F Y hf
theorem un_3 {A p:Nat} (h:A≠0):(un ((A:Nat):Int) p).2.2=(tz A:Int) - (p:Int):=by rw[qB8 A p h]
theorem yO2 {a:Nat} (h:fU a≠0):exP a=max 0 (1074 - (tz (fU a):Int)):=by
 have e:(un (sZ a) kP).2.2=(tz (fU a):Int) - (kP:Int):=by
  unfold sZ;have u:=zI7 (P:=kP) (neg a) h;rw[u]
 unfold exP;rw[e,qN5];congr 1
 omega
theorem exP_0 {a:Nat} (h:fU a=0):exP a=0:=by
 have e:sZ a=0:=by have:=yA1 a;omega
 unfold exP;rw[e,qP6];rfl
theorem xO7 {A k p:Nat} (h:A≠0) (u:p≤tz A+k):2^p ∣ A*10^k:=by
 have H:=(qX0 _ _ lR h).1;have V:(10:Nat)^k=2^k*5^k:=by rw[←Nat.mul_pow]
 have J:A*10^k=2^(tz A+k)*(A / 2^tz A*5^k):=by
  have Y:A*10^k=2^tz A*(A / 2^tz A)*(2^k*5^k):=by rw[H,V]
  rw[Y,kN3]
  ac_rfl
 rw[J];exact Nat.dvd_trans (Nat.pow_dvd_pow 2 u) (Nat.dvd_mul_right _ _)
theorem yR5 {A k:Nat} {ng:Bool} (J:kU ∣ A*10^k):rdN A (k:Int) ng 2=scF A k∧scF A k*kU=A*10^k:=by
 obtain⟨Y,u⟩:=tn_p k;have e:scE A k=true:=by
  unfold scE;rw[Y,u,Nat.one_mul];exact kF2 (Nat.mod_eq_zero_of_dvd J)
 refine⟨by unfold rdN;rw[kU6 e],?_⟩
 unfold scF;rw[Y,u,Nat.one_mul];exact Nat.div_mul_cancel J
theorem zK9 {A N:Nat} (h:N*kU=A):un ((A:Nat):Int) 1074=un ((N:Nat):Int) 0:=by
 have u:=qU8 (N:Int) 0 kP;rw[qI8,←kN8,h,kH6,qN5] at u;exact u.symm
theorem pt_0 {d:List UInt8} (h:1≤d.length):ptL d 0=d:=by
 unfold ptL;rw[kU6 δ,show nzL (1 - (d.length:Int)) = [] by unfold nzL;rw[show(1 - (d.length:Int)).toNat=0 by omega];rfl,show nzL (-0) = [] from rfl,List.append_nil,kG9]
theorem yT4 {a:Nat} (w:World) (F:a<18446744073709551616) :
  Ca 10 #[.float .f64 a] w (Rq w (.string ⟨(exT a).toArray⟩)):=by
 unfold exT;rcases(by omega:9218868437227405312<mag a∨mag a=9218868437227405312∨mag a<9218868437227405312)with hf|hf|hf
 ·rw[kU6 hf];refine(zG3 a _ w (fun W=>qL5 a (neg a) W (fun W=>Ie.c33 a F W) (zH7 F hf))).mono ?_
  rintro r w' ⟨rfl,rfl⟩;exact⟨rfl,kH9 _ _⟩
 ·rw[kU5 ω,kU6 hf];obtain⟨o1,o2⟩:=zH8 F hf;refine(zG3 a _ w (fun W=>qL6 a (neg a) W (fun W=>Ie.c33 a F W) o1 o2)).mono ?_
  rintro r w' ⟨rfl,rfl⟩;exact⟨rfl,kH9 _ _⟩
 ·rw[kU5 ω,kU5 ω];have hb:=xO9 a;have he:0≤exP a∧exP a≤1100:=by unfold exP;omega
  obtain⟨k,hk⟩:∃ k:Nat,exP a=(k:Int):=⟨(exP a).toNat,ω⟩;have qK:k≤1100:=ω;have hd:kU ∣ fU a*10^k:=by
   by_cases C:fU a=0
   ·rw[C,Nat.zero_mul];exact Nat.dvd_zero _
   ·have H:=yO2 C;rw[←qI8];exact xO7 C (by rw[qN5];omega)
  obtain⟨N1,I⟩:=yR5 (ng:=neg a) hd;have e:=uN_rd (a:=a) (k:=exP a) (m:=2) ω;have V:=yN6 (a:=a) (m:=2) (pl:=exP a) ω ω;rw[yU5,←xC1 _ he.1];rw[e] at V ⊢;rw[hk] at V ⊢;rw[N1] at V ⊢;obtain⟨l1,l2⟩:=xB0 V;have l3:=kF8 l1 dk5;have l4:=zS6 (d:=dcD (scF (fU a) k)) (p:=(k:Int));have qJ:(if neg a=true then(⟨#[45]⟩:ByteArray) else⟨#[]⟩).size≤1:=by split;exact kH8 1;exact kB4 1
  have kE:Hid (∀ (W:World) (s:Bool) (ao:Option Addr) (n cp:Nat) (e:Int),DN W (.agg (Nu s ao n cp e)) (un ((fU a:Nat):Int) 1074)→(un ((fU a:Nat):Int) 1074).2.2=e):=by
   rintro W s ao n cp e ⟨qV,cap,h,-⟩;have H:=Value.agg.inj h;simp at H
   exact H.2.2.symm
  have T:(un ((fU a:Nat):Int) 1074).2.2=0∧fU a=0∨fU a≠0∧(un ((fU a:Nat):Int) 1074).2.2=(tz (fU a):Int) - 1074:=by
   by_cases C:fU a=0
   ·left;rw[C];exact⟨by rw[show((0:Nat):Int)=0 from rfl,qP6],rfl⟩
   ·right;exact⟨C,un_3 C⟩
  have qY:(k:Int)=max 0 (-(un ((fU a:Nat):Int) 1074).2.2):=by
   rw[←hk];rcases T with ⟨H,h2⟩|⟨H,h2⟩
   ·rw[exP_0 h2,H];rfl
   ·rw[yO2 H,h2,Int.neg_sub]
  have qX : -1074≤(un ((fU a:Nat):Int) 1074).2.2:=by
   rcases T with ⟨H,h2⟩|⟨H,h2⟩ <;> omega
  clear T;generalize D:(un ((fU a:Nat):Int) 1074).2.2=x at *;have qQ:0≤x→k=0:=by clear N1 I hd V l1 l2 l3 l4 e kE D hb;omega
  have J:¬ 0≤x→x = -(k:Int):=by clear N1 I hd V l1 l2 l3 l4 e kE D hb;omega
  have L:¬ 0≤x→k≤1074:=by clear N1 I hd V l1 l2 l3 l4 e kE D hb;omega
  have qZ:bU≤90000:=by rw[qF2];omega
  by_cases hx:0≤x
  ·obtain rfl:=qQ hx;rw[kN7,kM1] at I;have eP:ptL (dcD (scF (fU a) ((0:Nat):Int))) ((0:Nat):Int)=dcD (scF (fU a) ((0:Nat):Int)):=by
    exact pt_0 l2
   rw[eP] at l4 ⊢;refine yG0 a x _ ⟨(dcD (scF (fU a) ((0:Nat):Int))).toArray⟩ _ _ w (fun W=>zT5 F hf W) (fun W=>yT3 F W) kE hx ?_ ?_ (yE5 _ _)
   ·intro W X u;rw[zK9 I] at u;exact zY6 u V dk6
   ·have e9:=bsz (dcD (scF (fU a) ((0:Nat):Int)));omega
  ·have J:=J hx;have L:=L hx;clear qY qQ;refine yU9 a x _ ⟨(dcD (scF (fU a) (k:Int))).toArray⟩ _ _ w (fun W=>zT5 F hf W) (fun W=>yT3 F W) kE (k:Int) ⟨(ptL (dcD (scF (fU a) (k:Int))) (k:Int)).toArray⟩ (un ((10^k:Nat):Int) 0) (un ((10^k:Nat):Int) k) (un ((fU a:Nat):Int) (1074 - k)) (un ((fU a*10^k:Nat):Int) 1074) hx (by rw[J,kB5];omega) (by rw[J,kB5];omega) (fun W=>(zN6 k W ω).mono fun r w' h=>outQ h) ?_ ?_ ?_ ?_ (fun W=>yU7 _ (k:Int) W ω l2 ω) ?_ (yE5 _ _)
   ·intro W X u;have h:=zY0 (k:=x) (qG3 (qY4 (qU4 k)) ω ω) u ω;rw[yJ6 (q:=k) ω] at h;exact h.mono fun r w' h=>outQ h
   ·intro W X u;have h:=zY0 (k:=(k:Int)) (qG3 (qY4 (qI9 a)) qZ ω) u ω;rw[yJ6 (q:=1074 - k) ω] at h;exact h.mono fun r w' h=>outQ h
   ·intro W X Y u hY;have h:=yJ2 (qG3 (qY4 (qI9 a)) qZ ω) (qG3 (qY4 (qU4 k)) ω ω) u hY;rw[yR0,←kN8,Nat.sub_add_cancel L] at h;exact h.mono fun r w' h=>outQ h
   ·intro W X u;rw[zK9 I] at u;exact zY6 u V dk6
   ·have e9:=bsz (ptL (dcD (scF (fU a) (k:Int))) (k:Int));omega
theorem yQ8 {a:Nat} (u:0<a) (h:a<9218868437227405312):1≤(shD a).length∧∀ x,(shD a).getLast?=some x→x≠48:=by
 have Y:=qE3 a;have D : -400≤shX a∧shX a≤400:=(qW5 (qI9 a) (xO6 u h)).2.2;have V : -2000≤(shJ a:Int) - shX a∧(shJ a:Int) - shX a≤2000:=ω;obtain⟨T,H⟩:=bs_b (lo_b Y V u h).2.1 (zV3 Y u h);obtain⟨z,F,J,z3,z4,z5⟩:=yQ4 H u h;exact⟨J,z5⟩
def shTx (a:Nat):List UInt8:=if 9218868437227405312<mag a then [110,97,110] else if mag a=9218868437227405312 then sgL (neg a) [105,110,102] else if mag a=0 then sgL (neg a) [48] else sgL (neg a) (shS (mag a))
theorem xR3 {a:Nat} (H:0<a) (h:a<9218868437227405312):(shD a).length≤36 ∧ -1000≤shE a∧shE a≤1000:=by
 have Y:=shOk H h;have hx:=Y.x;have J:=zX1 Y;have u:(shD a).length≤36:=kF8 (zJ2 _ _) J;have V : -1000≤shE a∧shE a≤1000:=by unfold shE;omega
 exact⟨u,V⟩
theorem zA5 {a:Nat} {w:World} (hT:Tab32 w) (hI:Ie.Tab w) (qZ:Tab10 w) (J:a<18446744073709551616) :
  Ca 7 #[.float .f64 a] w (Rq w (.string ⟨(shTx a).toArray⟩)):=by
 unfold shTx;rcases(by omega:9218868437227405312<mag a∨mag a=9218868437227405312∨mag a<9218868437227405312)with hf|hf|hf
 ·rw[kU6 hf];refine qH5 a _ w ?_;intro W D H T;have u:=fun V=>Ie.c9 a J V;rw[zM0 hf] at u;refine(qI6 a _ _ W u).mono ?_
  rintro r w' ⟨rfl,rfl⟩;exact⟨rfl,kH9 _ _⟩
 ·rw[kU5 ω,kU6 hf];obtain⟨I,c2⟩:=zM1 hf;refine qH5 a _ w ?_;intro W D H T;have u:=fun V=>Ie.c9 a J V;rw[I,c2] at u;refine(qI7 a _ _ W u).mono ?_
  rintro r w' ⟨rfl,rfl⟩;exact⟨rfl,kH9 _ _⟩
 ·rw[kU5 ω,kU5 ω];obtain⟨I,c2,c3⟩:=qL7 hf;have C:=xF5 J (kM8 hf);by_cases L:mag a=0
  ·rw[kU6 L];rw[kF2 L] at C;refine qH5 a _ w ?_;intro W D H T;have u:=fun V=>Ie.c9 a J V;rw[c3] at u;refine qB2 a _ _ (neg a) _ _ W I c2 δ u (qZ4 Tryz.func23 (by kernel_rfl) (by kernel_rfl)) ?_
   refine(yB3 a D W T C).mono ?_
   rintro r w' ⟨rfl,rfl⟩;exact⟨rfl,kH9 _ _⟩
  ·rw[kU5 L];rw[kF1 L] at C;have Y:0<mag a:=ω;obtain⟨qQ,hE⟩:=xR3 Y hf;obtain⟨hd,-⟩:=yQ8 Y hf;have ok:=shOk Y hf;have F:=yQ6 qQ hE;refine qH5 a _ w ?_;intro W D H T;have u:=fun V=>Ie.c9 a J V;rw[c3] at u;refine qB2 a _ _ (neg a) _ _ W I c2 F u (qZ4 Tryz.func23 (by kernel_rfl) (by kernel_rfl)) ?_
   refine zH4 a (mag a) (shE (mag a)) (shD (mag a)) (shS (mag a)) D W T C ω ω (fun V=>c159 a J V) ?_ ?_ ?_
   ·exact zH1 (hT.later H) (Tab.later hI H) ok
   ·intro hc V hV;unfold shS;rw[kU6 hc];exact zL4 (shD (mag a)) (Lib.itoa (shE (mag a))) (shE (mag a)) V hd ω (by have:=Lib.itoa_length_le (shE (mag a)) ω ω;show(Lib.itoa (shE (mag a))).length≤100;omega) (fun U hU=>xM8 ω (((qZ.later H).later hV).later hU))
   ·intro hc V hV;unfold shS;rw[kU5 hc];exact qC6 ω ω (knz V)
def hxTx (a:Nat):List UInt8:=if 9218868437227405312<mag a then [110,97,110] else if mag a=9218868437227405312 then sgL (neg a) [105,110,102] else sgL (neg a) (hxT a)
theorem DHexA {a:Nat} {w:World} (F:Ie.Tab w) (J:Tab10 w) (Y:a<18446744073709551616) :
  Ca 11 #[.float .f64 a] w (Rq w (.string ⟨(hxTx a).toArray⟩)):=by
 unfold hxTx;rcases(by omega:9218868437227405312<mag a∨mag a=9218868437227405312∨mag a<9218868437227405312)with hf|hf|hf
 ·rw[kU6 hf];refine yB6 a _ w ?_;intro W D H L;have u:=fun V=>Ie.c9 a Y V;rw[zM0 hf] at u;refine(qI6 a _ _ W u).mono ?_
  rintro r w' ⟨rfl,rfl⟩;exact⟨rfl,kH9 _ _⟩
 ·rw[kU5 ω,kU6 hf];obtain⟨T,c2⟩:=zM1 hf;refine yB6 a _ w ?_;intro W D H L;have u:=fun V=>Ie.c9 a Y V;rw[T,c2] at u;refine(qI7 a _ _ W u).mono ?_
  rintro r w' ⟨rfl,rfl⟩;exact⟨rfl,kH9 _ _⟩
 ·rw[kU5 ω,kU5 ω];exact DHex F J Y hf
end Go.Proofs.YtfkaogdmlcdceaaGreatDoor
