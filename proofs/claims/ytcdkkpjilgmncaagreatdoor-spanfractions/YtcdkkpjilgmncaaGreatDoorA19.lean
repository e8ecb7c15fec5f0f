/- Own work: contracts of the program's functions, part 19: FS5 FS6 FS7 FS8 FS9. -/
import Derived.Test.YtcdkkpjilgmncaaGreatDoorA18
import Derived.Test.YtcdkkpjilgmncaaGreatDoorA14
import Derived.Test.YtcdkkpjilgmncaaGreatDoorA6
import Derived.Test.YtcdkkpjilgmncaaGreatDoorA13

set_option maxHeartbeats 16000000
set_option maxRecDepth 200000
set_option linter.unusedVariables false
set_option linter.unusedSimpArgs false
namespace Go.Proofs.YtcdkkpjilgmncaaGreatDoor
open Go.RowKit Go.Fl64
theorem pU_add (a b:Nat):pU (a+b)=pU a*pU b:=Nat.pow_add 2 a b
theorem pU_split {t n:Nat} (h:n≤t):pU t=pU (t - n)*pU n:=by rw[←pU_add,Nat.sub_add_cancel h]
theorem dparts {x:Nat} (hx:x<18446744073709551616) (nx:neg x=false):∃ A B s:Nat,0<B∧0<s∧fU x=A*s∧kU=B*s∧A<2^bU∧B<2^bU∧∀ w,Calls Tryz.prog 18 #[.float .f64 x] w fun r w'=>Out2D w (un (A:Int) 0) (un (B:Int) 0) r w':=by
 have eS:=sU_pos nx
 have eU:un (sU x) 1074=cn false (fU x) (-1074):=by
  rw[eS]
  unfold un
  rw[decide_eq_false (by omega),Int.natAbs_natCast]
  rfl
 have hlt:=fU_lt x
 by_cases h0:fU x=0
 ·refine⟨0,1,kU,by omega,kU_pos,by rw[h0,Nat.zero_mul],by rw[Nat.one_mul],Nat.two_pow_pos _,?_,fun w=>?_⟩
  ·exact Nat.lt_of_le_of_lt (Nat.succ_le_of_lt kU_pos) kU_lt
  ·have k:=dparts_0 x hx w (by rw[eU,h0];decide)
   rw[eS,h0] at k
   rw[un_kU,show((0:Nat):Int)*(kU:Int)=((0:Nat):Int)from Int.zero_mul _]
   exact k
 ·obtain⟨t,ht⟩:∃ t,t=tz (fU x):=⟨_,rfl⟩
  obtain⟨m,hm⟩:∃ m,m=fU x / 2^tz (fU x):=⟨_,rfl⟩
  have sp:=(tz_spec _ _ (Nat.le_refl _) h0).1
  rw[←hm,←ht] at sp
  have e2:(un (sU x) 1074).2.2 = -1074+(t:Int):=by rw[eU];unfold cn;rw[if_neg h0,←ht]
  have mb:m<2^bU:=by
   refine Nat.lt_of_le_of_lt ?_ hlt
   rw[hm]
   exact Nat.div_le_self _ _
  rcases Nat.lt_or_ge t 1074 with h|h
  ·have ek:kU=pU (1074 - t)*pU t:=pU_split (Nat.le_of_lt h)
   refine⟨m,pU (1074 - t),pU t,pU_pos _,pU_pos _,by rw[←sp,Nat.mul_comm];rfl,ek,mb,pU_lt (by unfold bU;omega),fun w=>?_⟩
   have k:=dparts_1 x hx w (by rw[e2];omega)
   rw[e2] at k
   rw[gK_un (q:=t) (by omega),un_pU 1 (1074 - t),gK_un (q:=0) (by omega),Int.one_mul,eS,←sp,Nat.mul_comm] at k
   rw[un_pU (m:Int) t,←Int.natCast_mul]
   exact k
  ·have e3:pU t=pU (t - 1074)*kU:=pU_split h
   have sp':pU t*m=fU x:=sp
   have e4:fU x=pU (t - 1074)*m*kU:=by
    rw[←sp',e3,Nat.mul_assoc,Nat.mul_assoc,Nat.mul_comm kU]
   refine⟨pU (t - 1074)*m,1,kU,by omega,kU_pos,e4,by rw[Nat.one_mul],?_,?_,fun w=>?_⟩
   ·refine Nat.lt_of_le_of_lt ?_ hlt
    rw[e4]
    exact Nat.le_mul_of_pos_right _ kU_pos
   ·exact Nat.lt_of_le_of_lt (Nat.succ_le_of_lt kU_pos) kU_lt
   ·have k:=dparts_0 x hx w (by rw[e2];omega)
    rw[un_kU,←Int.natCast_mul,←e4,←eS]
    exact k
theorem smp_down {a b c d s t p q A B C D:Nat} (h:Smp a b c d p q) (hs:0<s) (ht:0<t) (ha:a=A*s) (hb:b=B*s) (hc:c=C*t) (hd:d=D*t) (hB:0<B) (hle:a*d≤c*b):A*D≤C*B∧Smp A B C D p q:=by
 have h1:A*D≤C*B:=by
  rw[ha,hb,hc,hd] at hle
  have e1:A*s*(D*t)=A*D*(s*t):=by rw[Nat.mul_mul_mul_comm]
  have e2:C*t*(B*s)=C*B*(s*t):=by rw[Nat.mul_mul_mul_comm,Nat.mul_comm t s]
  rw[e1,e2] at hle
  exact Nat.le_of_mul_le_mul_right hle (Nat.mul_pos hs ht)
 refine⟨h1,?_⟩
 obtain⟨p',q',h'⟩:=smp_ex (B+D) _ _ _ _ (Nat.le_refl _) hB h1
 have h2:=smp_scale h' hs ht
 rw[←ha,←hb,←hc,←hd] at h2
 obtain⟨rfl,rfl⟩:=smp_det h2 h
 exact h'
def SM (a b:Nat) (P:Int) (Q:Nat):Prop :=
 (0<stp a∧∃ p:Nat,P=(p:Int)∧fU a*dU b≤cU b*kU∧Smp (fU a) kU (cU b) (dU b) p Q) ∨
 (stp b<0∧∃ p:Nat,P = -(p:Int)∧fU (ngt b)*dU (ngt a)≤cU (ngt a)*kU∧Smp (fU (ngt b)) kU (cU (ngt a)) (dU (ngt a)) p Q) ∨
 (stp a≤0∧0≤stp b∧P=0∧Q=1)
attribute [local go_sem] run_negf8
def Out3D (W:World) (t1 t2:Bool×Nat×Int) (k:Int) (r:Ending) (w':World):Prop:=∃ (s1:Bool) (ao1:Option Addr) (n1 cp1:Nat) (e1:Int) (s2:Bool) (ao2:Option Addr) (n2 cp2:Nat) (e2:Int),r=.returned (.tuple #[.agg #[.bool s1,.slice ao1 n1 cp1,.int .i64 e1],.agg #[.bool s2,.slice ao2 n2 cp2,.int .i64 e2],.int .i64 k])∧DN w' (.agg #[.bool s1,.slice ao1 n1 cp1,.int .i64 e1]) t1∧DN w' (.agg #[.bool s2,.slice ao2 n2 cp2,.int .i64 e2]) t2∧Bw W w'
theorem DN.zero8 (w:World):DN w (.agg #[.bool false,.slice none 0 0,.int .i64 0]) nilN:=⟨none,0,by rw[show nilN=(false,0,(0:Int))from rfl,dlen_zero],fun _=>.inr ⟨rfl,rfl⟩,⟨0,0,fun h=>by rw[show nilN.2.1=0 from rfl,dlen_zero] at h;omega,fun i hi=>by rw[show nilN.2.1=0 from rfl,dlen_zero] at hi;omega⟩,by rw[show nilN.2.1=0 from rfl,dlen_zero];omega,by rw[show nilN.2.1=0 from rfl,dlen_zero];omega⟩
theorem store3_oth8 {w:World} {g k:Nat} (a b c:Value) (h:k≠g):(((w.setCell ⟨g,0,none⟩ a).setCell ⟨g,1,none⟩ b).setCell ⟨g,2,none⟩ c).heap[k]?=w.heap[k]?:=by
 have h':¬ g=k:=fun e=>h e.symm
 simp[World.setCell,Array.getElem?_modify,h']
theorem dn_store8 {w:World} {A:Value} {t:Bool×Nat×Int} {g:Nat} {s:Bool} {ao:Option Addr} {n cap:Nat} {e:Int} (h:DN w A t) (hg:w.heap[g]?=some (.cells #[.bool s,.slice ao n cap,.int .i64 e] 27 (0,0))) (a b c:Value):DN (((w.setCell ⟨g,0,none⟩ a).setCell ⟨g,1,none⟩ b).setCell ⟨g,2,none⟩ c) A t:=by
 obtain⟨oo,cc,h1,h2⟩:=h
 exact⟨oo,cc,h1,h2.nil,at_box h2.at_ rfl hg (by simp) (by simp) (by simp) a b c,h2.le,h2.small⟩
theorem dsimp8_no (a b:Nat) (w:World) (k1:∀ W,Bw w W→Calls Tryz.prog 16 #[.agg #[.float .f64 a,.float .f64 b]] W fun r w'=>r=.returned (.bool false)∧Bw W w'):Calls Tryz.prog 5 #[.agg #[.float .f64 a,.float .f64 b]] w fun r w'=>Out3D w nilN nilN 1 r w':=by
 obtain⟨W,hW⟩:∃ W,W=((w.alloc (.cells #[.float .f64 a,.float .f64 b] 24)).alloc (.cells #[.bool false,.slice none 0 0,.int .i64 0] 27)).alloc (.cells #[.bool false,.slice none 0 0,.int .i64 0] 27):=⟨_,rfl⟩
 obtain⟨hF,hN,hM,hBW⟩:=three_new _ _ _ hW
 have c0:W.cell? ⟨w.heap.size,0,none⟩=some (.float .f64 a):=by simp[World.cell?,hF]
 have c1:W.cell? ⟨w.heap.size,1,none⟩=some (.float .f64 b):=by simp[World.cell?,hF]
 have HF:Hid (W.heap[w.heap.size]?=some (.cells #[.float .f64 a,.float .f64 b] 24 (0,0))∧W.heap[w.heap.size+1]?=some (.cells #[.bool false,.slice none 0 0,.int .i64 0] 27 (0,0))∧W.heap[w.heap.size+1+1]?=some (.cells #[.bool false,.slice none 0 0,.int .i64 0] 27 (0,0))∧Bw w W):=⟨hF,hN,hM,hBW⟩
 have kk:=k1 W hBW
 clear k1 hF hN hM hBW
 go_enter Tryz.func5,Tryz.ntmps5
 go_upto_region 1 with fail
 rw[←hW]
 clear hW
 go_wp2_with fail
 refine kk.mono ?_
 rintro r w1 ⟨rfl,hb1⟩
 clear kk c0 c1
 have HG:Hid (w1.heap[w.heap.size]?=some (.cells #[.float .f64 a,.float .f64 b] 24 (0,0))∧w1.heap[w.heap.size+1]?=some (.cells #[.bool false,.slice none 0 0,.int .i64 0] 27 (0,0))∧w1.heap[w.heap.size+1+1]?=some (.cells #[.bool false,.slice none 0 0,.int .i64 0] 27 (0,0))∧Bw w w1):=⟨box_later HF.out.1 hb1 (lt_of_box HF.out.1),box_later HF.out.2.1 hb1 (lt_of_box HF.out.2.1),box_later HF.out.2.2.1 hb1 (lt_of_box HF.out.2.2.1),HF.out.2.2.2.trans (hb1.mono HF.out.2.2.2.size)⟩
 clear hb1 HF
 obtain⟨x1,x2,x3,xB⟩:=HG.out
 obtain⟨⟨y0,y1,y2⟩,z0,z1,z2⟩:=box_cells29 x2
 obtain⟨⟨p0,p1,p2⟩,q0,q1,q2⟩:=box_cells29 x3
 clear x1 x2 x3 xB
 go_wp2_with fail
 obtain⟨x1,x2,x3,xB⟩:=HG.out
 have s2:=store3_29 (.bool false) (.slice none 0 0) (.int .i64 0) x2
 have s3:=store3_29 (.bool false) (.slice none 0 0) (.int .i64 0) (show(((w1.setCell ⟨w.heap.size+1,0,none⟩ (.bool false)).setCell ⟨w.heap.size+1,1,none⟩ (.slice none 0 0)).setCell ⟨w.heap.size+1,2,none⟩ (.int .i64 0)).heap[w.heap.size+1+1]?=_ from(store3_oth8 _ _ _ (by omega)).trans x3)
 refine bodyPost_ret (results_c2t rfl _ _ (w.heap.size+1) (w.heap.size+1+1) 27 #[.bool false,.slice none 0 0,.int .i64 0] #[.bool false,.slice none 0 0,.int .i64 0] (0,0) (0,0) _ rfl rfl ((store3_oth8 _ _ _ (by omega)).trans s2) s3 Tryz.underlying27 rfl Tryz.info27 Tryz.info27) rfl ?_
 exact⟨_,_,_,_,_,_,_,_,_,_,rfl,DN.zero8 _,DN.zero8 _,below_store3 (below_store3 xB (by omega) _ _ _) (by omega) _ _ _⟩
theorem dsimp8_0 (a b:Nat) (w:World) (hz1:(FloatKind.f64.format.order a 0==some Ordering.lt||FloatKind.f64.format.order a 0==some Ordering.eq)=true) (hz2:(FloatKind.f64.format.order b 0==some Ordering.gt||FloatKind.f64.format.order b 0==some Ordering.eq)=true) (k1:∀ W,Bw w W→Calls Tryz.prog 16 #[.agg #[.float .f64 a,.float .f64 b]] W fun r w'=>r=.returned (.bool true)∧Bw W w'):Calls Tryz.prog 5 #[.agg #[.float .f64 a,.float .f64 b]] w fun r w'=>Out3D w nilN (un 1 0) 0 r w':=by
 obtain⟨W,hW⟩:∃ W,W=((w.alloc (.cells #[.float .f64 a,.float .f64 b] 24)).alloc (.cells #[.bool false,.slice none 0 0,.int .i64 0] 27)).alloc (.cells #[.bool false,.slice none 0 0,.int .i64 0] 27):=⟨_,rfl⟩
 obtain⟨hF,hN,hM,hBW⟩:=three_new _ _ _ hW
 have c0:W.cell? ⟨w.heap.size,0,none⟩=some (.float .f64 a):=by simp[World.cell?,hF]
 have c1:W.cell? ⟨w.heap.size,1,none⟩=some (.float .f64 b):=by simp[World.cell?,hF]
 have HF:Hid (W.heap[w.heap.size]?=some (.cells #[.float .f64 a,.float .f64 b] 24 (0,0))∧W.heap[w.heap.size+1]?=some (.cells #[.bool false,.slice none 0 0,.int .i64 0] 27 (0,0))∧W.heap[w.heap.size+1+1]?=some (.cells #[.bool false,.slice none 0 0,.int .i64 0] 27 (0,0))∧Bw w W):=⟨hF,hN,hM,hBW⟩
 have kk:=k1 W hBW
 clear k1 hF hN hM hBW
 go_enter Tryz.func5,Tryz.ntmps5
 go_upto_region 1 with fail
 rw[←hW]
 clear hW
 go_wp2_with fail
 refine kk.mono ?_
 rintro r w1 ⟨rfl,hb1⟩
 clear kk c0 c1
 have HG:Hid (w1.heap[w.heap.size]?=some (.cells #[.float .f64 a,.float .f64 b] 24 (0,0))∧w1.heap[w.heap.size+1]?=some (.cells #[.bool false,.slice none 0 0,.int .i64 0] 27 (0,0))∧w1.heap[w.heap.size+1+1]?=some (.cells #[.bool false,.slice none 0 0,.int .i64 0] 27 (0,0))∧Bw w w1):=⟨box_later HF.out.1 hb1 (lt_of_box HF.out.1),box_later HF.out.2.1 hb1 (lt_of_box HF.out.2.1),box_later HF.out.2.2.1 hb1 (lt_of_box HF.out.2.2.1),HF.out.2.2.2.trans (hb1.mono HF.out.2.2.2.size)⟩
 clear hb1 HF
 have c0:w1.cell? ⟨w.heap.size,0,none⟩=some (.float .f64 a):=by simp[World.cell?,HG.out.1]
 have c1:w1.cell? ⟨w.heap.size,1,none⟩=some (.float .f64 b):=by simp[World.cell?,HG.out.1]
 have kk:=dwholeU (n:=1) (by omega) w1
 go_wp2_with fail
 refine kk.mono ?_
 rintro r w2 ⟨A,rfl,hA,hb2⟩
 obtain⟨s1,ao1,n1,cp1,e1,rfl⟩:=hA.shape
 clear kk c0 c1
 have x2:=box_later HG.out.2.1 hb2 (lt_of_box HG.out.2.1)
 have x3:=box_later HG.out.2.2.1 hb2 (lt_of_box HG.out.2.2.1)
 have HM:Hid (w2.heap[w.heap.size+1]?=some (.cells #[.bool false,.slice none 0 0,.int .i64 0] 27 (0,0))∧w2.heap[w.heap.size+1+1]?=some (.cells #[.bool false,.slice none 0 0,.int .i64 0] 27 (0,0))∧DN w2 (.agg #[.bool s1,.slice ao1 n1 cp1,.int .i64 e1]) (un 1 0)∧Bw w w2):=⟨x2,x3,hA,HG.out.2.2.2.trans (hb2.mono HG.out.2.2.2.size)⟩
 obtain⟨⟨y0,y1,y2⟩,z0,z1,z2⟩:=box_cells29 x2
 obtain⟨⟨p0,p1,p2⟩,q0,q1,q2⟩:=box_cells29 x3
 clear x2 x3 hA hb2 HG
 go_wp2_with fail
 obtain⟨x2,x3,xA,xB⟩:=HM.out
 have s2:=store3_29 (.bool false) (.slice none 0 0) (.int .i64 0) x2
 have x3':(((w2.setCell ⟨w.heap.size+1,0,none⟩ (.bool false)).setCell ⟨w.heap.size+1,1,none⟩ (.slice none 0 0)).setCell ⟨w.heap.size+1,2,none⟩ (.int .i64 0)).heap[w.heap.size+1+1]?=_:=(store3_oth8 _ _ _ (by omega)).trans x3
 have s3:=store3_29 (.bool s1) (.slice ao1 n1 cp1) (.int .i64 e1) x3'
 refine bodyPost_ret (results_c2t rfl _ _ (w.heap.size+1) (w.heap.size+1+1) 27 #[.bool false,.slice none 0 0,.int .i64 0] #[.bool s1,.slice ao1 n1 cp1,.int .i64 e1] (0,0) (0,0) _ rfl rfl ((store3_oth8 _ _ _ (by omega)).trans s2) s3 Tryz.underlying27 rfl Tryz.info27 Tryz.info27) rfl ?_
 exact⟨_,_,_,_,_,_,_,_,_,_,rfl,DN.zero8 _,dn_store8 (dn_store8 xA x2 _ _ _) x3' _ _ _,below_store3 (below_store3 xB (by omega) _ _ _) (by omega) _ _ _⟩
theorem dsimp8_all (a b:Nat) (w:World) (ng fn:Bool) (x y:Nat) (tA tB tC tD tP tP' tQ:Bool×Nat×Int) (hz1:(FloatKind.f64.format.order a 0==some Ordering.lt||FloatKind.f64.format.order a 0==some Ordering.eq)=ng) (hz3:(FloatKind.f64.format.order b 0==some Ordering.gt||FloatKind.f64.format.order b 0==some Ordering.eq) = !ng) (hlt:(FloatKind.f64.format.order b 0==some Ordering.lt)=ng) (hf:(FloatKind.f64.format.order y 9218868437227405311==some Ordering.lt||FloatKind.f64.format.order y 9218868437227405311==some Ordering.eq)=fn)
  (hxy:Hid (x=(if ng then Op.negFloat .f64 b else a)∧y=if ng then Op.negFloat .f64 a else b))
  (k1:∀ W,Bw w W→Calls Tryz.prog 16 #[.agg #[.float .f64 a,.float .f64 b]] W fun r w'=>r=.returned (.bool true)∧Bw W w')
  (k2:Hid (∀ W,Bw w W→Calls Tryz.prog 18 #[.float .f64 x] W fun r w'=>Out2D W tA tB r w'))
  (k3:Hid (fn=true→∀ W,Bw w W→Calls Tryz.prog 18 #[.float .f64 y] W fun r w'=>Out2D W tC tD r w')) (k3':Hid (fn=false→tC=un 1 0∧tD=nilN))
  (k4:Hid (∀ (s1:Bool) (ao1:Option Addr) (n1 cp1:Nat) (e1:Int) (s2:Bool) (ao2:Option Addr) (n2 cp2:Nat) (e2:Int) (s3:Bool) (ao3:Option Addr) (n3 cp3:Nat) (e3:Int) (s4:Bool) (ao4:Option Addr) (n4 cp4:Nat) (e4:Int) W,Bw w W→DN W (.agg #[.bool s1,.slice ao1 n1 cp1,.int .i64 e1]) tA→DN W (.agg #[.bool s2,.slice ao2 n2 cp2,.int .i64 e2]) tB→DN W (.agg #[.bool s3,.slice ao3 n3 cp3,.int .i64 e3]) tC→DN W (.agg #[.bool s4,.slice ao4 n4 cp4,.int .i64 e4]) tD→Calls Tryz.prog 19 #[.agg #[.bool s1,.slice ao1 n1 cp1,.int .i64 e1],.agg #[.bool s2,.slice ao2 n2 cp2,.int .i64 e2],.agg #[.bool s3,.slice ao3 n3 cp3,.int .i64 e3],.agg #[.bool s4,.slice ao4 n4 cp4,.int .i64 e4]] W fun r w'=>Out2D W tP tQ r w'))
  (hP:Hid (tP'=if ng then gN tP else tP)):Calls Tryz.prog 5 #[.agg #[.float .f64 a,.float .f64 b]] w fun r w'=>Out3D w tP' tQ 0 r w':=by
 obtain⟨W,hW⟩:∃ W,W=((w.alloc (.cells #[.float .f64 a,.float .f64 b] 24)).alloc (.cells #[.bool false,.slice none 0 0,.int .i64 0] 27)).alloc (.cells #[.bool false,.slice none 0 0,.int .i64 0] 27):=⟨_,rfl⟩
 obtain⟨hF,hN,hM,hBW⟩:=three_new _ _ _ hW
 have c0:W.cell? ⟨w.heap.size,0,none⟩=some (.float .f64 a):=by simp[World.cell?,hF]
 have c1:W.cell? ⟨w.heap.size,1,none⟩=some (.float .f64 b):=by simp[World.cell?,hF]
 have HF:Hid (W.heap[w.heap.size]?=some (.cells #[.float .f64 a,.float .f64 b] 24 (0,0))∧W.heap[w.heap.size+1]?=some (.cells #[.bool false,.slice none 0 0,.int .i64 0] 27 (0,0))∧W.heap[w.heap.size+1+1]?=some (.cells #[.bool false,.slice none 0 0,.int .i64 0] 27 (0,0))∧Bw w W):=⟨hF,hN,hM,hBW⟩
 have kk:=k1 W hBW
 clear k1 hF hN hM hBW
 go_enter Tryz.func5,Tryz.ntmps5
 go_upto_region 1 with fail
 rw[←hW]
 clear hW
 go_wp2_with fail
 refine kk.mono ?_
 rintro r w1 ⟨rfl,hb1⟩
 clear kk c0 c1
 have HG:Hid (w1.heap[w.heap.size]?=some (.cells #[.float .f64 a,.float .f64 b] 24 (0,0))∧w1.heap[w.heap.size+1]?=some (.cells #[.bool false,.slice none 0 0,.int .i64 0] 27 (0,0))∧w1.heap[w.heap.size+1+1]?=some (.cells #[.bool false,.slice none 0 0,.int .i64 0] 27 (0,0))∧Bw w w1):=⟨box_later HF.out.1 hb1 (lt_of_box HF.out.1),box_later HF.out.2.1 hb1 (lt_of_box HF.out.2.1),box_later HF.out.2.2.1 hb1 (lt_of_box HF.out.2.2.1),HF.out.2.2.2.trans (hb1.mono HF.out.2.2.2.size)⟩
 clear hb1 HF
 have c0:w1.cell? ⟨w.heap.size,0,none⟩=some (.float .f64 a):=by simp[World.cell?,HG.out.1]
 have c1:w1.cell? ⟨w.heap.size,1,none⟩=some (.float .f64 b):=by simp[World.cell?,HG.out.1]
 go_upto_region 3 with fail
 go_cut [19] from 20 to 27 (fun v wx=>v=.bool false∧wx=w1)
 case first =>
  cases ng
  ·go_wp2
   go_meet
   exact⟨rfl,rfl⟩
  ·go_wp2
   go_meet
   exact⟨rfl,rfl⟩
 case rest =>
 obtain⟨rfl,rfl⟩:=hcut
 clear hz1 hz3
 go_upto_region 5 with fail
 go_quiet (fail)
 clear c0 c1
 obtain⟨V1,hV1⟩:∃ V1,V1=wc.drewN nq:=⟨_,rfl⟩
 rw[←hV1]
 have hbV:Bw wc V1:=by rw[hV1];exact bdrewN (Below.refl _ _) nq
 have H1:Hid (V1.heap[w.heap.size]?=some (.cells #[.float .f64 a,.float .f64 b] 24 (0,0))∧V1.heap[w.heap.size+1]?=some (.cells #[.bool false,.slice none 0 0,.int .i64 0] 27 (0,0))∧V1.heap[w.heap.size+1+1]?=some (.cells #[.bool false,.slice none 0 0,.int .i64 0] 27 (0,0))∧Bw w V1):=⟨box_later HG.out.1 hbV (lt_of_box HG.out.1),box_later HG.out.2.1 hbV (lt_of_box HG.out.2.1),box_later HG.out.2.2.1 hbV (lt_of_box HG.out.2.2.1),HG.out.2.2.2.trans (hbV.mono HG.out.2.2.2.size)⟩
 clear hbV hV1 HG
 go_upto_if 35 with fail
 go_cut [5,6] from 36 to 39 (fun p q wx=>p=.float .f64 x∧q=.float .f64 y∧wx=V1)
 case first =>
  obtain⟨hx,hy⟩:=hxy.out
  cases ng
  ·go_wp2
   go_meet
   exact⟨by rw[hx];rfl,by rw[hy];rfl,rfl⟩
  ·go_wp2
   go_meet
   exact⟨by rw[hx];rfl,by rw[hy];rfl,rfl⟩
 case rest =>
 obtain⟨rfl,rfl,hwc⟩:=hcut
 subst hwc
 clear hxy
 have kk:=k2.out wc H1.out.2.2.2
 go_wp2_with fail
 refine kk.mono ?_
 rintro r w2 ⟨s1,ao1,n1,cp1,e1,s2,ao2,n2,cp2,e2,rfl,hA,hB,hb2⟩
 clear kk
 obtain⟨W2,hW2⟩:∃ W2,W2=(w2.alloc (.cells #[.bool s1,.slice ao1 n1 cp1,.int .i64 e1] 27)).alloc (.cells #[.bool s2,.slice ao2 n2 cp2,.int .i64 e2] 27):=⟨_,rfl⟩
 obtain⟨z1,z2,z3,z4⟩:=two_new _ _ hW2
 have hb12:Bw wc W2:=hb2.trans (z4.mono hb2.size)
 obtain⟨x1,x2,x3,xB⟩:=H1.out
 go_upto_region 9 with fail
 rw[←hW2]
 clear hW2
 have hsz:=hb2.size
 have hl:=lt_of_box x3
 have hA':=hA.later z4
 have hB':=hB.later z4
 clear z3 z4 hA hB
 generalize w2.heap.size=gqA at *
 have H2:Hid (W2.heap[w.heap.size]?=some (.cells #[.float .f64 a,.float .f64 b] 24 (0,0))∧W2.heap[w.heap.size+1]?=some (.cells #[.bool false,.slice none 0 0,.int .i64 0] 27 (0,0))∧W2.heap[w.heap.size+1+1]?=some (.cells #[.bool false,.slice none 0 0,.int .i64 0] 27 (0,0))∧Bw w W2∧NB W2 gqA s1 ao1 n1 cp1 e1 tA∧NB W2 (gqA+1) s2 ao2 n2 cp2 e2 tB∧w.heap.size+1+1<gqA):=⟨box_later x1 hb12 (lt_of_box x1),box_later x2 hb12 (lt_of_box x2),box_later x3 hb12 (lt_of_box x3),xB.trans (hb12.mono xB.size),⟨z1,hA'⟩,⟨z2,hB'⟩,by omega⟩
 clear x1 x2 x3 xB hb2 hb12 z1 z2 hA' hB' hsz hl H1
 have kk:=dwholeU (n:=1) (by omega) W2
 go_wp2_with fail
 refine kk.mono ?_
 rintro r w3 ⟨A,rfl,hA,hb3⟩
 obtain⟨s3,ao3,n3,cp3,e3,rfl⟩:=hA.shape
 clear kk
 obtain⟨W3,hW3⟩:∃ W3,W3=(w3.alloc (.cells #[.bool s3,.slice ao3 n3 cp3,.int .i64 e3] 27)).alloc (.cells #[.bool false,.slice none 0 0,.int .i64 0] 27):=⟨_,rfl⟩
 obtain⟨z1,z2,z3,z4⟩:=two_new _ _ hW3
 have hb23:Bw W2 W3:=hb3.trans (z4.mono hb3.size)
 obtain⟨x1,x2,x3,xB,xa,xb,xg⟩:=H2.out
 go_upto_region 10 with fail
 rw[←hW3]
 clear hW3
 have hsz:=hb3.size
 have hl:=lt_of_box xb.1
 have hA':=hA.later z4
 clear z3 z4 hA
 generalize w3.heap.size=gqC at *
 have H3:Hid (W3.heap[w.heap.size]?=some (.cells #[.float .f64 a,.float .f64 b] 24 (0,0))∧W3.heap[w.heap.size+1]?=some (.cells #[.bool false,.slice none 0 0,.int .i64 0] 27 (0,0))∧W3.heap[w.heap.size+1+1]?=some (.cells #[.bool false,.slice none 0 0,.int .i64 0] 27 (0,0))∧Bw w W3∧NB W3 gqA s1 ao1 n1 cp1 e1 tA∧NB W3 (gqA+1) s2 ao2 n2 cp2 e2 tB∧w.heap.size+1+1<gqA∧NB W3 gqC s3 ao3 n3 cp3 e3 (un 1 0)∧NB W3 (gqC+1) false none 0 0 0 nilN∧gqA+1<gqC):=⟨box_later x1 hb23 (lt_of_box x1),box_later x2 hb23 (lt_of_box x2),box_later x3 hb23 (lt_of_box x3),xB.trans (hb23.mono xB.size),xa.later hb23,xb.later hb23,xg,⟨z1,hA'⟩,⟨z2,DN.zero8 _⟩,by omega⟩
 clear x1 x2 x3 xB xa xb xg hb3 hb23 z1 z2 hA' hsz hl H2
 go_upto_if 48 with fail
 go_cut [] from 49 to 53 (fun wx=>∃ (s5:Bool) (ao5:Option Addr) (n5 cp5:Nat) (e5:Int) (s6:Bool) (ao6:Option Addr) (n6 cp6:Nat) (e6:Int),Hid (wx.heap[w.heap.size]?=some (.cells #[.float .f64 a,.float .f64 b] 24 (0,0))∧wx.heap[w.heap.size+1]?=some (.cells #[.bool false,.slice none 0 0,.int .i64 0] 27 (0,0))∧wx.heap[w.heap.size+1+1]?=some (.cells #[.bool false,.slice none 0 0,.int .i64 0] 27 (0,0))∧Bw w wx∧NB wx gqA s1 ao1 n1 cp1 e1 tA∧NB wx (gqA+1) s2 ao2 n2 cp2 e2 tB∧w.heap.size+1+1<gqA∧NB wx gqC s5 ao5 n5 cp5 e5 tC∧NB wx (gqC+1) s6 ao6 n6 cp6 e6 tD∧gqA+1<gqC))
 case first =>
  cases fn
  ·obtain⟨rfl,rfl⟩:=k3'.out rfl
   go_wp2
   go_meet
   exact⟨_,_,_,_,_,_,_,_,_,_,H3⟩
  ·have kk:=k3.out rfl W3 H3.out.2.2.2.1
   go_wp2_with fail
   refine kk.mono ?_
   rintro r w4 ⟨s5,ao5,n5,cp5,e5,s6,ao6,n6,cp6,e6,rfl,hA,hB,hb4⟩
   clear kk
   obtain⟨x1,x2,x3,xB,xa,xb,xg,xc,xd,xh⟩:=H3.out
   have yc:=box_later xc.1 hb4 (lt_of_box xc.1)
   have yd:=box_later xd.1 hb4 (lt_of_box xd.1)
   have HM:Hid (w4.heap[w.heap.size]?=some (.cells #[.float .f64 a,.float .f64 b] 24 (0,0))∧w4.heap[w.heap.size+1]?=some (.cells #[.bool false,.slice none 0 0,.int .i64 0] 27 (0,0))∧w4.heap[w.heap.size+1+1]?=some (.cells #[.bool false,.slice none 0 0,.int .i64 0] 27 (0,0))∧Bw w w4∧NB w4 gqA s1 ao1 n1 cp1 e1 tA∧NB w4 (gqA+1) s2 ao2 n2 cp2 e2 tB∧w.heap.size+1+1<gqA∧w4.heap[gqC]?=some (.cells #[.bool s3,.slice ao3 n3 cp3,.int .i64 e3] 27 (0,0))∧w4.heap[gqC+1]?=some (.cells #[.bool false,.slice none 0 0,.int .i64 0] 27 (0,0))∧DN w4 (.agg #[.bool s5,.slice ao5 n5 cp5,.int .i64 e5]) tC∧DN w4 (.agg #[.bool s6,.slice ao6 n6 cp6,.int .i64 e6]) tD∧gqA+1<gqC):=⟨box_later x1 hb4 (lt_of_box x1),box_later x2 hb4 (lt_of_box x2),box_later x3 hb4 (lt_of_box x3),xB.trans (hb4.mono xB.size),xa.later hb4,xb.later hb4,xg,yc,yd,hA,hB,xh⟩
   obtain⟨⟨y0,y1,y2⟩,z0,z1,z2⟩:=box_cells29 yc
   obtain⟨⟨p0,p1,p2⟩,q0,q1,q2⟩:=box_cells29 yd
   clear x1 x2 x3 xB xa xb xg xc xd xh hA hB hb4 yc yd H3
   obtain⟨W4,hW4⟩:∃ W4,W4=((((((w4.setCell ⟨gqC,0,none⟩ (.bool s5)).setCell ⟨gqC,1,none⟩ (.slice ao5 n5 cp5)).setCell ⟨gqC,2,none⟩ (.int .i64 e5)).setCell ⟨gqC+1,0,none⟩ (.bool s6)).setCell ⟨gqC+1,1,none⟩ (.slice ao6 n6 cp6)).setCell ⟨gqC+1,2,none⟩ (.int .i64 e6)):=⟨_,rfl⟩
   go_wp2
   go_meet
   rw[←hW4]
   have H4:Hid (W4.heap[w.heap.size]?=some (.cells #[.float .f64 a,.float .f64 b] 24 (0,0))∧W4.heap[w.heap.size+1]?=some (.cells #[.bool false,.slice none 0 0,.int .i64 0] 27 (0,0))∧W4.heap[w.heap.size+1+1]?=some (.cells #[.bool false,.slice none 0 0,.int .i64 0] 27 (0,0))∧Bw w W4∧NB W4 gqA s1 ao1 n1 cp1 e1 tA∧NB W4 (gqA+1) s2 ao2 n2 cp2 e2 tB∧w.heap.size+1+1<gqA∧NB W4 gqC s5 ao5 n5 cp5 e5 tC∧NB W4 (gqC+1) s6 ao6 n6 cp6 e6 tD∧gqA+1<gqC):=by
    obtain⟨x1,x2,x3,xB,xa,xb,xg,xc,xd,yA,yB,xh⟩:=HM.out
    have ot:∀ k,k≠gqC→k≠gqC+1→W4.heap[k]?=w4.heap[k]?:=fun k h1 h2=>by rw[hW4];exact(store3_oth8 _ _ _ h2).trans (store3_oth8 _ _ _ h1)
    have xd':(((w4.setCell ⟨gqC,0,none⟩ (.bool s5)).setCell ⟨gqC,1,none⟩ (.slice ao5 n5 cp5)).setCell ⟨gqC,2,none⟩ (.int .i64 e5)).heap[gqC+1]?=_:=(store3_oth8 _ _ _ (by omega)).trans xd
    have dn:∀ {A:Value} {t:Bool×Nat×Int},DN w4 A t→DN W4 A t:=fun h=>by rw[hW4];exact dn_store8 (dn_store8 h xc _ _ _) xd' _ _ _
    refine⟨(ot _ (by omega) (by omega)).trans x1,(ot _ (by omega) (by omega)).trans x2,(ot _ (by omega) (by omega)).trans x3,?_,⟨(ot _ (by omega) (by omega)).trans xa.1,dn xa.2⟩,⟨(ot _ (by omega) (by omega)).trans xb.1,dn xb.2⟩,xg,⟨?_,dn yA⟩,⟨?_,dn yB⟩,xh⟩
    ·rw[hW4];exact below_store3 (below_store3 xB (by omega) _ _ _) (by omega) _ _ _
    ·rw[hW4];exact(store3_oth8 _ _ _ (by omega)).trans (store3_29 _ _ _ xc)
    ·rw[hW4];exact store3_29 _ _ _ xd'
   exact⟨_,_,_,_,_,_,_,_,_,_,H4⟩
 case rest =>
 obtain⟨s5,ao5,n5,cp5,e5,s6,ao6,n6,cp6,e6,H4⟩:=hcut
 rename_i wd
 clear H3
 obtain⟨x1,x2,x3,xB,xa,xb,xg,xc,xd,xh⟩:=H4.out
 have kk:=k4.out s1 ao1 n1 cp1 e1 s2 ao2 n2 cp2 e2 s5 ao5 n5 cp5 e5 s6 ao6 n6 cp6 e6 wc xB xa.2 xb.2 xc.2 xd.2
 obtain⟨k0,k1',k2'⟩:=(cells3N xa.1).1
 obtain⟨l0,l1,l2⟩:=(cells3N xb.1).1
 obtain⟨m0,m1,m2⟩:=(cells3N xc.1).1
 obtain⟨y0,y1,y2⟩:=(cells3N xd.1).1
 clear x1 x2 x3 xB xa xb xg xc xd xh
 go_wp2_with fail
 refine kk.mono ?_
 rintro r w5 ⟨s7,ao7,n7,cp7,e7,s8,ao8,n8,cp8,e8,rfl,hA,hB,hb5⟩
 clear kk k0 k1' k2' l0 l1 l2 m0 m1 m2 y0 y1 y2
 obtain⟨x1,x2,x3,xB,xa,xb,xg,xc,xd,xh⟩:=H4.out
 obtain⟨W5,hW5⟩:∃ W5,W5=(w5.alloc (.cells #[.bool s7,.slice ao7 n7 cp7,.int .i64 e7] 27)).alloc (.cells #[.bool s8,.slice ao8 n8 cp8,.int .i64 e8] 27):=⟨_,rfl⟩
 obtain⟨z1,z2,z3,z4⟩:=two_new _ _ hW5
 have hb45:Bw wc W5:=hb5.trans (z4.mono hb5.size)
 go_upto_region 13 with fail
 rw[←hW5]
 clear hW5
 have hsz:=hb5.size
 have hl:=lt_of_box xd.1
 have hA':=hA.later z4
 have hB':=hB.later z4
 clear z3 z4 hA hB
 generalize w5.heap.size=gqP at *
 have H5:Hid (W5.heap[w.heap.size]?=some (.cells #[.float .f64 a,.float .f64 b] 24 (0,0))∧W5.heap[w.heap.size+1]?=some (.cells #[.bool false,.slice none 0 0,.int .i64 0] 27 (0,0))∧W5.heap[w.heap.size+1+1]?=some (.cells #[.bool false,.slice none 0 0,.int .i64 0] 27 (0,0))∧Bw w W5∧NB W5 gqP s7 ao7 n7 cp7 e7 tP∧NB W5 (gqP+1) s8 ao8 n8 cp8 e8 tQ∧w.heap.size+1+1<gqP):=⟨box_later x1 hb45 (lt_of_box x1),box_later x2 hb45 (lt_of_box x2),box_later x3 hb45 (lt_of_box x3),xB.trans (hb45.mono xB.size),⟨z1,hA'⟩,⟨z2,hB'⟩,by omega⟩
 clear x1 x2 x3 xB xa xb xg xc xd xh hb5 hb45 z1 z2 hA' hB' hsz hl H4
 have c1:W5.cell? ⟨w.heap.size,1,none⟩=some (.float .f64 b):=by simp[World.cell?,H5.out.1]
 go_upto_if 64 with fail
 clear c1
 go_cut [] from 65 to 66 (fun wx=>∃ (s9:Bool) (ao9:Option Addr) (n9 cp9:Nat) (e9:Int),Hid (wx.heap[w.heap.size]?=some (.cells #[.float .f64 a,.float .f64 b] 24 (0,0))∧wx.heap[w.heap.size+1]?=some (.cells #[.bool false,.slice none 0 0,.int .i64 0] 27 (0,0))∧wx.heap[w.heap.size+1+1]?=some (.cells #[.bool false,.slice none 0 0,.int .i64 0] 27 (0,0))∧Bw w wx∧NB wx gqP s9 ao9 n9 cp9 e9 tP'∧NB wx (gqP+1) s8 ao8 n8 cp8 e8 tQ∧w.heap.size+1+1<gqP))
 case first =>
  have hP':=hP.out
  cases ng
  ·obtain rfl:tP'=tP:=hP'
   go_wp2
   go_meet
   exact⟨_,_,_,_,_,H5⟩
  ·have hP2:tP'=gN tP:=hP'
   clear hP'
   obtain⟨x1,x2,x3,xB,xa,xb,xg⟩:=H5.out
   have kk:=gminus xa.2
   obtain⟨k0,k1',k2'⟩:=(cells3N xa.1).1
   clear x1 x2 x3 xB xa xb xg
   go_wp2_with fail
   refine kk.mono ?_
   rintro r w6 ⟨A,rfl,hA,hb6⟩
   obtain⟨s9,ao9,n9,cp9,e9,rfl⟩:=hA.shape
   clear kk k0 k1' k2'
   rw[←hP2] at hA
   obtain⟨x1,x2,x3,xB,xa,xb,xg⟩:=H5.out
   have ya:=box_later xa.1 hb6 (lt_of_box xa.1)
   have HM:Hid (w6.heap[w.heap.size]?=some (.cells #[.float .f64 a,.float .f64 b] 24 (0,0))∧w6.heap[w.heap.size+1]?=some (.cells #[.bool false,.slice none 0 0,.int .i64 0] 27 (0,0))∧w6.heap[w.heap.size+1+1]?=some (.cells #[.bool false,.slice none 0 0,.int .i64 0] 27 (0,0))∧Bw w w6∧w6.heap[gqP]?=some (.cells #[.bool s7,.slice ao7 n7 cp7,.int .i64 e7] 27 (0,0))∧NB w6 (gqP+1) s8 ao8 n8 cp8 e8 tQ∧w.heap.size+1+1<gqP∧DN w6 (.agg #[.bool s9,.slice ao9 n9 cp9,.int .i64 e9]) tP'):=⟨box_later x1 hb6 (lt_of_box x1),box_later x2 hb6 (lt_of_box x2),box_later x3 hb6 (lt_of_box x3),xB.trans (hb6.mono xB.size),ya,xb.later hb6,xg,hA⟩
   obtain⟨⟨y0,y1,y2⟩,z0,z1,z2⟩:=box_cells29 ya
   clear x1 x2 x3 xB xa xb xg hA hb6 ya H5
   obtain⟨W6,hW6⟩:∃ W6,W6=(((w6.setCell ⟨gqP,0,none⟩ (.bool s9)).setCell ⟨gqP,1,none⟩ (.slice ao9 n9 cp9)).setCell ⟨gqP,2,none⟩ (.int .i64 e9)):=⟨_,rfl⟩
   go_wp2
   go_meet
   rw[←hW6]
   have H6:Hid (W6.heap[w.heap.size]?=some (.cells #[.float .f64 a,.float .f64 b] 24 (0,0))∧W6.heap[w.heap.size+1]?=some (.cells #[.bool false,.slice none 0 0,.int .i64 0] 27 (0,0))∧W6.heap[w.heap.size+1+1]?=some (.cells #[.bool false,.slice none 0 0,.int .i64 0] 27 (0,0))∧Bw w W6∧NB W6 gqP s9 ao9 n9 cp9 e9 tP'∧NB W6 (gqP+1) s8 ao8 n8 cp8 e8 tQ∧w.heap.size+1+1<gqP):=by
    obtain⟨x1,x2,x3,xB,xa,xb,xg,yA⟩:=HM.out
    have ot:∀ k,k≠gqP→W6.heap[k]?=w6.heap[k]?:=fun k h1=>by rw[hW6];exact store3_oth8 _ _ _ h1
    have dn:∀ {A:Value} {t:Bool×Nat×Int},DN w6 A t→DN W6 A t:=fun h=>by rw[hW6];exact dn_store8 h xa _ _ _
    refine⟨(ot _ (by omega)).trans x1,(ot _ (by omega)).trans x2,(ot _ (by omega)).trans x3,?_,⟨?_,dn yA⟩,⟨(ot _ (by omega)).trans xb.1,dn xb.2⟩,xg⟩
    ·rw[hW6];exact below_store3 xB (by omega) _ _ _
    ·rw[hW6];exact store3_29 _ _ _ xa
   exact⟨_,_,_,_,_,H6⟩
 case rest =>
 obtain⟨s9,ao9,n9,cp9,e9,H6⟩:=hcut
 clear H5
 go_upto_region 15 with fail
 obtain⟨x1,x5,x6,x7,xp,xq,xg⟩:=H6.out
 have hbx2:∀ i,i<2→∃ cs,wc.heap[two (w.heap.size+1) (w.heap.size+1+1) i]?=some (.cells cs 27 (0,0))∧NC3 cs:=fun i hi=>by
  rcases lt2F hi with rfl|rfl
  ·exact⟨_,x5,_,_,_,_,_,rfl⟩
  ·exact⟨_,x6,_,_,_,_,_,rfl⟩
 have ne:∀ g,w.heap.size+1+1<g→∀ i,i<2→g≠two (w.heap.size+1) (w.heap.size+1+1) i:=fun g h i hi=>by
  rcases lt2F hi with rfl|rfl
  ·show g≠w.heap.size+1;omega
  ·show g≠w.heap.size+1+1;omega
 refine q_region follows_mixed [0,1,4] [2,3] [67,68,4] [[],[],[]] [[0],[1]] [0,1] (two 2 3) (two (w.heap.size+1) (w.heap.size+1+1)) w.heap.size 27 NC3 3 wc _ [isV (.agg #[.bool s9,.slice ao9 n9 cp9,.int .i64 e9]),isV (.agg #[.bool s8,.slice ao8 n8 cp8,.int .i64 e8]),isV (.int .i64 0)] (by kernel_rfl) ⟨isV_stays _,isV_stays _,isV_stays _,trivial⟩ ⟨isV_rows _ _ _,isV_rows _ _ _,isV_rows _ _ _,trivial⟩ (by show ∀ s ∈ [67,68,4],s<69;decide) ?_ ?_ Tryz.info27 ?_ ?_ ?_ (two_inj (by omega)) x7.size ?_
 ·intro i hi U u h
  rcases lt2F hi with rfl|rfl
  ·obtain rfl:u=_:=h
   exact⟨_,rfl,rfl,⟨_,_,_,_,_,rfl⟩,one3 rfl rfl⟩
  ·obtain rfl:u=_:=h
   exact⟨_,rfl,rfl,⟨_,_,_,_,_,rfl⟩,one3 rfl rfl⟩
 ·intro j hj o ho act U hK hoth hdep hrd
  have hj':j<3:=hj
  rcases(by omega:j=0∨j=1∨j=2)with rfl|rfl|rfl
  ·obtain rfl:=Option.some.inj ho
   have tp:act.tmps[(11:Nat)]?=some (Value.pointer (some ⟨gqP,0,none⟩)):=(hoth 11 (by decide)).trans rfl
   have cp:=(cells3N ((hK.keep gqP (lt_of_box xp.1) (ne gqP (by omega))).trans xp.1)).1
   exact .inl ⟨rfl,owp_ldD rfl tp cp.1 cp.2.1 cp.2.2 ⟨_,rfl,rfl,Below.refl _ _⟩⟩
  ·obtain rfl:=Option.some.inj ho
   have tp:act.tmps[(12:Nat)]?=some (Value.pointer (some ⟨gqP+1,0,none⟩)):=(hoth 12 (by decide)).trans rfl
   have cp:=(cells3N ((hK.keep (gqP+1) (lt_of_box xq.1) (ne (gqP+1) (by omega))).trans xq.1)).1
   exact .inl ⟨rfl,owp_ldD rfl tp cp.1 cp.2.1 cp.2.2 ⟨_,rfl,rfl,Below.refl _ _⟩⟩
  ·obtain rfl:=Option.some.inj ho
   exact .inl ⟨rfl,owp_cst (s:=0) rfl ⟨_,rfl,rfl,Below.refl _ _⟩⟩
 ·intro i hi
  rcases lt2F hi with rfl|rfl <;> exact⟨_,rfl,rfl⟩
 ·intro i hi
  rcases lt2F hi with rfl|rfl
  ·exact⟨rfl,by decide⟩
  ·exact⟨rfl,by decide⟩
 ·intro i hi
  rcases lt2F hi with rfl|rfl
  ·exact⟨by show w.heap.size≤w.heap.size+1;omega,_,x5,rfl,_,_,_,_,_,rfl⟩
  ·exact⟨by show w.heap.size≤w.heap.size+1+1;omega,_,x6,rfl,_,_,_,_,_,rfl⟩
 ·intro u U hK hu hcs
  obtain⟨csb,yb,zb⟩:=hcs 1 (by decide)
  obtain⟨csa,ya,za⟩:=hcs 0 (by decide)
  have u0:u 0=.agg #[.bool s9,.slice ao9 n9 cp9,.int .i64 e9]:=hu 0 (by decide)
  have u1:u 1=.agg #[.bool s8,.slice ao8 n8 cp8,.int .i64 e8]:=hu 1 (by decide)
  have u2:u 2=.int .i64 0:=hu 2 (by decide)
  have ya':u 0=.agg csa:=ya
  have yb':u 1=.agg csb:=yb
  rw[u0] at ya'
  rw[u1] at yb'
  obtain rfl:=Value.agg.inj ya'
  obtain rfl:=Value.agg.inj yb'
  have HX:Hid (U.heap[w.heap.size+1]?=some (.cells #[.bool s9,.slice ao9 n9 cp9,.int .i64 e9] 27 (0,0))∧U.heap[w.heap.size+1+1]?=some (.cells #[.bool s8,.slice ao8 n8 cp8,.int .i64 e8] 27 (0,0))∧DN U (.agg #[.bool s9,.slice ao9 n9 cp9,.int .i64 e9]) tP'∧DN U (.agg #[.bool s8,.slice ao8 n8 cp8,.int .i64 e8]) tQ∧Bw w U):=⟨za,zb,DN.keepN hK hbx2 xp.2,DN.keepN hK hbx2 xq.2,x7.trans hK.below⟩
  clear hu hcs ya yb za zb ya' yb' hK x1 x5 x6 x7 xp xq hbx2 ne H6
  simp only[putL,show List.range 3 = [0,1,2] from rfl,List.length_cons,List.length_nil,List.getD_cons_zero,List.getD_cons_succ,List.map_cons,List.map_nil,List.cons_append,List.nil_append,List.foldl_cons,List.foldl_nil,Nat.reduceLT,Nat.reduceMod,Nat.reduceDiv,Nat.reduceMul,Nat.reduceAdd,Nat.reduceEqDiff,reduceIte,Nat.one_ne_zero,Act.put,List.setIfInBounds_toArray,List.set_cons_zero,List.set_cons_succ]
  rw[u2]
  go_wp2_with fail
  refine bodyPost_ret (results_c2t rfl _ _ (w.heap.size+1) (w.heap.size+1+1) 27 #[.bool s9,.slice ao9 n9 cp9,.int .i64 e9] #[.bool s8,.slice ao8 n8 cp8,.int .i64 e8] (0,0) (0,0) _ rfl rfl HX.out.1 HX.out.2.1 Tryz.underlying27 rfl Tryz.info27 Tryz.info27) rfl ?_
  exact⟨_,_,_,_,_,_,_,_,_,_,rfl,HX.out.2.2.1,HX.out.2.2.2.1,HX.out.2.2.2.2⟩
attribute [local go_sem] run_store_flt
theorem give8_1 (ng:Bool) (b o n cap z:Nat) (e:Int) (w:World) (hn0:0<n) (hn:n≤35184372088832) (hcell:∀ i,i<n→w.cell? ⟨b,o+i,none⟩=some (.int .u32 (dg z i:Nat))) :
  Calls Tryz.prog 7 #[.agg #[.bool ng,.slice (some ⟨b,o,none⟩) n cap,.int .i64 e]] w fun r w'=>∃ v,r=.returned (.agg #[.bool ng,v,.int .i64 e])∧Dn w' w.heap.size v n z∧Bw w w':=by
 obtain⟨W,hW⟩:∃ W,W=(w.alloc (.cells #[.bool ng,.slice (some ⟨b,o,none⟩) n cap,.int .i64 e] 27)).alloc (.cells #[.bool false,.slice none 0 0,.int .i64 0] 28):=⟨_,rfl⟩
 have hBW:Bw w W:=by rw[hW];exact((Below.refl _ _).alloc (Nat.le_refl _) _).alloc (by simp) _
 have hbA:W.heap[w.heap.size]?=some (.cells #[.bool ng,.slice (some ⟨b,o,none⟩) n cap,.int .i64 e] 27 (0,0)):=by
  rw[hW,Below.heap_alloc _ _ _ (by simp)];exact heap_alloc_new _ _
 have hbB:W.heap[w.heap.size+1]?=some (.cells #[.bool false,.slice none 0 0,.int .i64 0] 28 (0,0)):=by
  have:=heap_alloc_new (w.alloc (.cells #[.bool ng,.slice (some ⟨b,o,none⟩) n cap,.int .i64 e] 27)) (.cells #[.bool false,.slice none 0 0,.int .i64 0] 28)
  rw[hW];simpa using this
 have hsz:W.heap.size=w.heap.size+1+1:=by rw[hW];simp
 have HN:Hid (∀ j u,(cells z n)[j]?=some u→W.drew.cell? ((⟨b,o,none⟩:Addr).add j)=some u):=fun j u hj=>by
  have hjl:j<n:=by
   have:=(List.getElem?_eq_some_iff.1 hj).1
   rwa [cells_length] at this
  rw[cells_get hjl] at hj
  rw[show(⟨b,o,none⟩:Addr).add j=⟨b,o+j,none⟩ by simp[Addr.add],←hj]
  exact(hBW.cell (World.block_lt_of_cell? _ _ (hcell j hjl))).trans (hcell j hjl)
 have HX:Hid (Bw w W∧W.heap.size=w.heap.size+1+1∧W.heap[w.heap.size]?=some (.cells #[.bool ng,.slice (some ⟨b,o,none⟩) n cap,.int .i64 e] 27 (0,0))∧W.heap[w.heap.size+1]?=some (.cells #[.bool false,.slice none 0 0,.int .i64 0] 28 (0,0))):=⟨hBW,hsz,hbA,hbB⟩
 obtain⟨⟨a0,a1,a2⟩,-⟩:=box_cells29 hbA
 clear hbA hbB hsz hBW hcell
 obtain⟨i0,hi0,hz0,hz1,hz2⟩:=info_parts Tryz.info60
 go_enter Tryz.func7,Tryz.ntmps7
 go_upto_region 2 with fail
 rw[←hW]
 clear hW
 go_region_held3 (fun w'=>w'.cell? ⟨w.heap.size,0,none⟩=some (.bool ng)∧w'.cell? ⟨w.heap.size,1,none⟩=some (.slice (some ⟨b,o,none⟩) n cap)∧w'.cell? ⟨w.heap.size,2,none⟩=some (.int .i64 e)) (first|(with_reducible assumption)|exact⟨a0,a1,a2⟩|exact hS2|go_keep)
  (first|(refine step_append_grows rfl (.tmp 6) (.tmp 8) 25 rfl 60 i0 (.int .u32 0) 1 4 Tryz.underlying25 hi0 hz0 hz1 hz2 rfl (by decide) none 0 0 [] (by simp[Act.eval,Act.put]) (fun _=>⟨rfl,rfl⟩) rfl (fun _ h=>by cases h) ⟨b,o,none⟩ n cap (cells z n) (by simp[Act.eval,Act.put]) (by rw[cells_length,Nat.mul_one]) HN.out (by intro u hu;simp[cells] at hu;obtain⟨j,-,rfl⟩:=hu;rfl) (by omega) (by unfold maxLen;omega) (by omega) ?_;intro v' w2 hown hgrow;rw[Nat.zero_add,List.nil_append] at hown;have HG:Hid (Bw W w2):=Below.grown (Below.refl W.heap.size W).drew hgrow (Nat.le_refl _) (fun k hk=>by cases hk);have hb2:=box_later HX.out.2.2.2 HG.out (by have:=HX.out.2.1;omega);obtain⟨⟨x1,x2,x3⟩,x4,x5,x6⟩:=box_cells hb2;obtain⟨g2,cap2,cur2,rfl,hg2,hc2,hc3,hc4,hc5,hc6⟩:=(hown.2.resolve_left fun h=>by omega);have HR:Hid (w2.heap[w.heap.size+1]?=some (.cells #[.bool false,.slice none 0 0,.int .i64 0] 28 (0,0))∧W.heap.size≤g2∧w2.heap[g2]?=some (.cells cur2 60 (0,0))∧(n≤cap2∧cap2≤9223372036854775807)∧cur2.size=cap2*1∧cur2.toList.take (n*1)=cells z n):=⟨hb2,hg2,hc2,⟨hc3,by unfold maxLen at hc4;omega⟩,hc5,hc6⟩;have hS2:=(box_cells29 (box_later HX.out.2.2.1 HG.out (by have:=HX.out.2.1;omega))).1;clear hown hgrow hb2 hg2 hc2 hc3 hc4 hc5 hc6))
 have HR2:Hid (w2.heap[w.heap.size+1]?=some (.cells #[.bool false,.slice none 0 0,.int .i64 0] 28 (0,0))∧W.heap.size≤g2∧w2.heap[g2]?=some (.cells cur2 60 (0,0))∧(n≤cap2∧cap2≤9223372036854775807)∧cur2.size=cap2*1∧cur2.toList.take (n*1)=cells z n):=HR
 clear hS2 x1 x2 x3 x4 x5 x6 a0 a1 a2 hi0 hz0 hz1 hz2 HR HN
 go_wp2
 refine bodyPost_ret (results_cell_row rfl _ _ (w.heap.size+1) 28 #[.bool ng,.slice (some ⟨g2,0,none⟩) n cap2,.int .i64 e] (0,0) _ rfl (store3 _ _ _ HR2.out.1) Tryz.underlying28 rfl Tryz.info28) rfl ?_
 obtain⟨h1,h2,h3,h4,h5,h6⟩:=HR2.out
 obtain⟨q1,q2,-,-⟩:=HX.out
 refine⟨_,rfl,.inr ⟨g2,cap2,cur2,rfl,by omega,h4,?_,by omega,fun i hi=>?_⟩,below_store3 (q1.trans (HG.out.mono q1.size)) (by omega) _ _ _⟩
 ·rw[setCell_block _ _ (by omega),setCell_block _ _ (by omega),setCell_block _ _ (by omega)]
  exact h3
 ·have h7:(cells z n)[i]?=cur2[i]?:=by
   rw[←h6,Nat.mul_one,List.getElem?_take,if_pos hi,Array.getElem?_toList]
  rw[←h7,cells_get hi]
theorem give8_0 (ng:Bool) (ao:Option Addr) (cap:Nat) (e:Int) (w:World) (hao:(∃ ad,ao=some ad)∨(ao=none∧cap=0)) :
  Calls Tryz.prog 7 #[.agg #[.bool ng,.slice ao 0 cap,.int .i64 e]] w fun r w'=>r=.returned (.agg #[.bool ng,.slice none 0 0,.int .i64 e])∧Bw w w':=by
 obtain⟨W,hW⟩:∃ W,W=(w.alloc (.cells #[.bool ng,.slice ao 0 cap,.int .i64 e] 27)).alloc (.cells #[.bool false,.slice none 0 0,.int .i64 0] 28):=⟨_,rfl⟩
 have hBW:Bw w W:=by rw[hW];exact((Below.refl _ _).alloc (Nat.le_refl _) _).alloc (by simp) _
 have hbA:W.heap[w.heap.size]?=some (.cells #[.bool ng,.slice ao 0 cap,.int .i64 e] 27 (0,0)):=by
  rw[hW,Below.heap_alloc _ _ _ (by simp)];exact heap_alloc_new _ _
 have hbB:W.heap[w.heap.size+1]?=some (.cells #[.bool false,.slice none 0 0,.int .i64 0] 28 (0,0)):=by
  have:=heap_alloc_new (w.alloc (.cells #[.bool ng,.slice ao 0 cap,.int .i64 e] 27)) (.cells #[.bool false,.slice none 0 0,.int .i64 0] 28)
  rw[hW];simpa using this
 have hsz:W.heap.size=w.heap.size+1+1:=by rw[hW];simp
 have HX:Hid (Bw w W∧W.heap.size=w.heap.size+1+1∧W.heap[w.heap.size]?=some (.cells #[.bool ng,.slice ao 0 cap,.int .i64 e] 27 (0,0))∧W.heap[w.heap.size+1]?=some (.cells #[.bool false,.slice none 0 0,.int .i64 0] 28 (0,0))):=⟨hBW,hsz,hbA,hbB⟩
 have HAO:Hid ((∃ ad,ao=some ad)∨(ao=none∧cap=0)):=hao
 obtain⟨⟨a0,a1,a2⟩,-⟩:=box_cells29 hbA
 clear hbA hbB hsz hBW hao
 obtain⟨i0,hi0,hz0,hz1,hz2⟩:=info_parts Tryz.info60
 go_enter Tryz.func7,Tryz.ntmps7
 go_upto_region 2 with fail
 rw[←hW]
 clear hW
 go_region_held3 (fun w'=>w'.cell? ⟨w.heap.size,0,none⟩=some (.bool ng)∧w'.cell? ⟨w.heap.size,1,none⟩=some (.slice ao 0 cap)∧w'.cell? ⟨w.heap.size,2,none⟩=some (.int .i64 e)) (first|(with_reducible assumption)|exact⟨a0,a1,a2⟩|exact hS2|go_keep)
  (first|(refine step_append_zero rfl (.tmp 6) (.tmp 8) 25 rfl 60 i0 (.int .u32 0) 1 4 Tryz.underlying25 hi0 hz0 hz1 hz2 rfl (by decide) (by simp[Act.eval,Act.put]) ao cap (by simp[Act.eval,Act.put]) HAO.out ?_;intro w2 hb;have HG:Hid (Bw W w2):=(Below.refl W.heap.size W).drew.trans hb;have hb2:=box_later HX.out.2.2.2 HG.out (by have:=HX.out.2.1;omega);obtain⟨⟨x1,x2,x3⟩,x4,x5,x6⟩:=box_cells hb2;have HR:Hid (w2.heap[w.heap.size+1]?=some (.cells #[.bool false,.slice none 0 0,.int .i64 0] 28 (0,0))):=hb2;have hS2:=(box_cells29 (box_later HX.out.2.2.1 HG.out (by have:=HX.out.2.1;omega))).1;clear hb hb2))
 have HR2:Hid (w2.heap[w.heap.size+1]?=some (.cells #[.bool false,.slice none 0 0,.int .i64 0] 28 (0,0))):=HR
 clear hS2 x1 x2 x3 x4 x5 x6 a0 a1 a2 hi0 hz0 hz1 hz2 HR
 go_wp2
 refine bodyPost_ret (results_cell_row rfl _ _ (w.heap.size+1) 28 #[.bool ng,.slice none 0 0,.int .i64 e] (0,0) _ rfl (store3 _ _ _ HR2.out) Tryz.underlying28 rfl Tryz.info28) rfl ?_
 obtain⟨q1,q2,-,-⟩:=HX.out
 exact⟨rfl,below_store3 (q1.trans (HG.out.mono q1.size)) (by omega) _ _ _⟩
theorem give8_ok {ng:Bool} {ao:Option Addr} {n cap z:Nat} {e:Int} {w:World} (h:Arg w ao n cap z) :
  Calls Tryz.prog 7 #[.agg #[.bool ng,.slice ao n cap,.int .i64 e]] w fun r w'=>∃ v,r=.returned (.agg #[.bool ng,v,.int .i64 e])∧Dn w' w.heap.size v n z∧Bw w w':=by
 by_cases h0:n=0
 ·subst h0
  refine(give8_0 ng ao cap e w (h.nil rfl)).mono ?_
  rintro r w' ⟨rfl,hb⟩
  exact⟨_,rfl,.inl ⟨rfl,rfl⟩,hb⟩
 ·obtain⟨b,o,h1,h2⟩:=h.at_
  obtain rfl:=h1 (by omega)
  exact give8_1 ng b o n cap z e w (by omega) h.small h2
theorem equal8_1 (s:Bool) (e:Int) (ua va:Option Addr) (n uc vc x:Nat) (w:World) (h1:At w ua n x) (h2:At w va n x) (hn:n≤35184372088832) :
  Calls Tryz.prog 9 #[.agg #[.bool s,.slice ua n uc,.int .i64 e],.agg #[.bool s,.slice va n vc,.int .i64 e]] w fun r w'=>r=.returned (.bool true)∧Bw w w':=by
 obtain⟨W,hW⟩:∃ W,W=(w.alloc (.cells #[.bool s,.slice ua n uc,.int .i64 e] 28)).alloc (.cells #[.bool s,.slice va n vc,.int .i64 e] 27):=⟨_,rfl⟩
 have hBW:Bw w W:=by rw[hW];exact((Below.refl _ _).alloc (Nat.le_refl _) _).alloc (by simp) _
 have hbA:W.heap[w.heap.size]?=some (.cells #[.bool s,.slice ua n uc,.int .i64 e] 28 (0,0)):=by
  rw[hW,Below.heap_alloc _ _ _ (by simp)];exact heap_alloc_new _ _
 have hbB:W.heap[w.heap.size+1]?=some (.cells #[.bool s,.slice va n vc,.int .i64 e] 27 (0,0)):=by
  rw[hW]
  have:=heap_alloc_new (w.alloc (.cells #[.bool s,.slice ua n uc,.int .i64 e] 28)) (.cells #[.bool s,.slice va n vc,.int .i64 e] 27)
  simpa using this
 obtain⟨⟨a0,a1,a2⟩,-⟩:=box_cells hbA
 obtain⟨⟨b0,b1,b2⟩,-⟩:=box_cells29 hbB
 have i1:=h1.later hBW
 have i2:=h2.later hBW
 have HH:Hid (Bw w W):=hBW
 have HA:Hid (∀ d,((W.drewN d).cell? ⟨w.heap.size,1,none⟩=some (.slice ua n uc)∧(W.drewN d).cell? ⟨w.heap.size+1,1,none⟩=some (.slice va n vc))∧At (W.drewN d) ua n x∧At (W.drewN d) va n x):=fun d=>⟨⟨a1,b1⟩,i1,i2⟩
 have t1:(s != s)=false:=by simp
 have t2:(e != e)=false:=by simp
 have t3:((n:Int) != (n:Int))=false:=by simp
 have hsz:(w.alloc (.cells #[.bool s,.slice ua n uc,.int .i64 e] 28)).heap.size=w.heap.size+1:=by simp
 clear hbA hbB h1 h2 hBW i1 i2
 rw[hW] at a0 a1 a2 b0 b1 b2
 go_enter Tryz.func9,Tryz.ntmps9
 go_wp2_with fail
 rw[←hW]
 clear hW a0 a1 a2 b0 b1 b2 hsz
 go_loopw [5] (fun v wr=>∃ (i d:Nat),i≤n∧v=.int .i64 (i:Int)∧wr=W.drewN d) (fun v _=>n - (intOf v).toNat)
 case atStart=>exact⟨0,0,Nat.zero_le _,rfl,rfl⟩
 case round =>
  obtain⟨i,d,hi,rfl,rfl⟩:=hrel
  obtain⟨⟨c1,c2⟩,⟨ba,oa,ha,hca⟩,⟨bb,ob,hb,hcb⟩⟩:=HA.out d
  by_cases hin:i<n
  ·obtain rfl:=ha (by omega)
   obtain rfl:=hb (by omega)
   have g1:=hca i hin
   have g2:=hcb i hin
   have hii:(i:Int)<(n:Int):=by omega
   generalize dg x i=q at *
   have t4:((q:Int) != (q:Int))=false:=by simp
   clear hca hcb ha hb
   have HW:Hid (∃ d',W.drewN d=W.drewN d'):=⟨d,rfl⟩
   generalize W.drewN d=wd at *
   go_wp2
   go_quiet (fail)
   go_wp2
   obtain⟨d',rfl⟩:=HW.out
   exact⟨⟨i+1,_,by omega,by simp,World.drewN_drewN ..⟩,by simp[intOf];omega⟩
  ·obtain rfl:i=n:=by omega
   clear hca hcb ha hb hin
   have HF:Hid (Below w.heap.size w (W.drewN d)):=⟨HH.out.os,HH.out.tape,HH.out.output,HH.out.size,HH.out.block⟩
   generalize W.drewN d=wd at *
   go_wp2
   go_ret
   exact⟨rfl,HF.out⟩
theorem run_bldI (a b:Nat) (w:World):(Instr.build 24 #[(0,.float .f64 a),(1,.float .f64 b)]).run Tryz.prog w=.ok (.agg #[.float .f64 a,.float .f64 b]) w:=run_build w _ _ _ (by kernel_rfl)
theorem owp_bldI {Q:Exit→Act→World→Prop} {o:Oper} {K:Act→World→Prop} {a:Act} {w:World} {s t:Tmp} {x y:Nat} (hop:o.op=.build 24 #[(0,.tmp s),(1,.tmp t)]) (hs:a.tmps[s]?=some (.float .f64 x)) (ht:a.tmps[t]?=some (.float .f64 y)) (h:K (a.put o.dst (.agg #[.float .f64 x,.float .f64 y])) w):o.wp Tryz.prog a w K Q :=
 owp_run1 (w':=w) (by simp[execOp,hop,eval_get hs,eval_get ht,run_bldI]) h
theorem map3c {a:Act} {s t:Tmp} {v u c:Value} (h:a.tmps[s]?=some v) (h':a.tmps[t]?=some u) : #[Operand.tmp s,Operand.tmp t,Operand.const c].map a.eval = #[v,u,c]:=by simp[Act.eval,h,h']
theorem map1t {a:Act} {s:Tmp} {v:Value} (h:a.tmps[s]?=some v) : #[Operand.tmp s].map a.eval = #[v]:=by simp[eval_get h]
theorem owp_cst8 {P:Program} {Q:Exit→Act→World→Prop} {o:Oper} {K:Act→World→Prop} {a:Act} {w:World} {v:Value} (hop:o.op=.assign (.const v)) (h:K (a.put o.dst v) w):o.wp P a w K Q :=
 owp_run1 (w':=w) (by simp[execOp,hop,Act.eval]) h
def IvC (cs:Array Value):Prop:=∃ x y:Nat,cs = #[.float .f64 x,.float .f64 y]
theorem Arg.keepI {W0 V:World} {n:Nat} {gs:Nat→Nat} {B:Nat} {ao:Option Addr} {m cap z:Nat} {T:TypeId} (hK:KeepB n gs B W0 V) (hbox:∀ k,k<n→∃ cs,W0.heap[gs k]?=some (.cells cs T (0,0))∧IvC cs) (h1:Arg W0 ao m cap z):Arg V ao m cap z:=by
 obtain⟨bb,o,h4,h5⟩:=h1.at_
 refine⟨h1.nil,⟨bb,o,h4,fun i hi=>?_⟩,h1.le,h1.small⟩
 have hc:=h5 i hi
 have hlt:bb<W0.heap.size:=World.block_lt_of_cell? _ _ hc
 have hne:∀ k,k<n→bb≠gs k:=by
  rintro k hk rfl
  obtain⟨cs,hE,_,_,rfl⟩:=hbox k hk
  simp only[World.cell?,hE] at hc
  rcases(show o+i=0∨o+i=1∨2≤o+i by omega)with e|e|e
  ·rw[e] at hc;simp at hc
  ·rw[e] at hc;simp at hc
  ·rw[Array.getElem?_eq_none (by simpa using e)] at hc;cases hc
 have:=hK.keep bb hlt hne
 unfold World.cell? at hc ⊢
 rw[this]
 exact hc
theorem equal8 {w:World} {A C:Value} {t:Bool×Nat×Int} (hA:PN w A t) (hC:DN w C t):Calls Tryz.prog 9 #[A,C] w fun r w'=>r=.returned (.bool true)∧Bw w w':=by
 obtain⟨ao,cap,rfl,hI⟩:=hA
 obtain⟨ao',cap',rfl,hI'⟩:=hC
 obtain⟨oo,cc,e,h1,h2,h3⟩:=hI
 cases e
 exact equal8_1 _ _ _ _ _ _ _ _ w h3 hI'.at_ hI'.small
theorem pfrac_no (s1:Bool) (ao1:Option Addr) (n1 cp1:Nat) (e1:Int) (s2:Bool) (ao2:Option Addr) (n2 cp2:Nat) (e2:Int) (E:Int) (w:World) (hE:(E==0)=false) (k1:∀ W,Bw w W→Calls Tryz.prog 21 #[.agg #[.bool s1,.slice ao1 n1 cp1,.int .i64 e1],.agg #[.bool s2,.slice ao2 n2 cp2,.int .i64 e2],.int .i64 1] W fun r w'=>Out2 W 0 E r w'):Calls Tryz.prog 6 #[.agg #[.bool s1,.slice ao1 n1 cp1,.int .i64 e1],.agg #[.bool s2,.slice ao2 n2 cp2,.int .i64 e2]] w fun r w'=>r=.returned (.tuple #[.agg #[.float .f64 0,.float .f64 0],.int .i64 E])∧Bw w w':=by
 obtain⟨W,hW⟩:∃ W,W=((w.alloc (.cells #[.bool s1,.slice ao1 n1 cp1,.int .i64 e1] 28)).alloc (.cells #[.bool s2,.slice ao2 n2 cp2,.int .i64 e2] 28)).alloc (.cells #[.float .f64 0,.float .f64 0] 24):=⟨_,rfl⟩
 obtain⟨m1,m2,m3,hBW⟩:=three_new _ _ _ hW
 have HX:Hid (Bw w W∧W.heap[w.heap.size]?=some (.cells #[.bool s1,.slice ao1 n1 cp1,.int .i64 e1] 28 (0,0))∧W.heap[w.heap.size+1]?=some (.cells #[.bool s2,.slice ao2 n2 cp2,.int .i64 e2] 28 (0,0))∧IvB W (w.heap.size+1+1) 0 0):=⟨hBW,m1,m2,m3⟩
 have HK:Hid (∀ w',Bw W w'→(w'.cell? ⟨w.heap.size,0,none⟩=some (.bool s1)∧w'.cell? ⟨w.heap.size,1,none⟩=some (.slice ao1 n1 cp1)∧w'.cell? ⟨w.heap.size,2,none⟩=some (.int .i64 e1))∧(w'.cell? ⟨w.heap.size+1,0,none⟩=some (.bool s2)∧w'.cell? ⟨w.heap.size+1,1,none⟩=some (.slice ao2 n2 cp2)∧w'.cell? ⟨w.heap.size+1,2,none⟩=some (.int .i64 e2))∧IvF w' (w.heap.size+1+1) 0 0):=fun w' hb=>⟨(cells3N (box_later HX.out.2.1 hb (lt_of_box HX.out.2.1))).1,(cells3N (box_later HX.out.2.2.1 hb (lt_of_box HX.out.2.2.1))).1,HX.out.2.2.2.later hb⟩
 obtain⟨⟨c0,c1,c2⟩,⟨d0,d1,d2⟩,⟨i0,i1,z0,z1⟩⟩:=HK.out W (Below.refl _ _)
 clear m1 m2 m3 hBW
 go_enter Tryz.func6,Tryz.ntmps6
 have kk:=k1 W HX.out.1
 clear k1
 go_upto_region 1 with fail
 rw[←hW]
 clear hW
 go_wp2_with fail
 refine kk.mono ?_
 rintro r w1 ⟨rfl,hb1⟩
 clear kk
 clear c0 c1 c2 d0 d1 d2 i0 i1 z0 z1
 obtain⟨⟨c0,c1,c2⟩,⟨d0,d1,d2⟩,⟨i0,i1,z0,z1⟩⟩:=HK.out w1 hb1
 have HB:Hid (Bw w w1):=HX.out.1.trans (hb1.mono HX.out.1.size)
 have HR:Hid (IvB w1 (w.heap.size+1+1) 0 0):=HX.out.2.2.2.box hb1
 clear hb1 HK HX
 go_wp2_with fail
 refine bodyPost_ret (results_cell_tmp_row rfl _ _ (w.heap.size+1+1) 24 #[.float .f64 0,.float .f64 0] (0,0) _ rfl (HR.out.set _ _) Tryz.underlying24 rfl iv_info) rfl ?_
 exact⟨rfl,below_store2 HB.out (by omega) _ _⟩
theorem pfrac_1 (s1:Bool) (ao1:Option Addr) (n1 cp1:Nat) (e1:Int) (s2:Bool) (ao2:Option Addr) (n2 cp2:Nat) (e2:Int) (F G x y:Nat) (w:World) (k1:∀ W,Bw w W→Calls Tryz.prog 21 #[.agg #[.bool s1,.slice ao1 n1 cp1,.int .i64 e1],.agg #[.bool s2,.slice ao2 n2 cp2,.int .i64 e2],.int .i64 1] W fun r w'=>Out2 W F 0 r w') (k3:∀ W,Bw w W→Calls Tryz.prog 21 #[.agg #[.bool s1,.slice ao1 n1 cp1,.int .i64 e1],.agg #[.bool s2,.slice ao2 n2 cp2,.int .i64 e2],.int .i64 3] W fun r w'=>Out2 W G 0 r w') (k5:∀ W,Calls Tryz.prog 22 #[.float .f64 F,.float .f64 G] W fun r w'=>r=.returned (.agg #[.float .f64 x,.float .f64 y])∧Bw W w'):Calls Tryz.prog 6 #[.agg #[.bool s1,.slice ao1 n1 cp1,.int .i64 e1],.agg #[.bool s2,.slice ao2 n2 cp2,.int .i64 e2]] w fun r w'=>r=.returned (.tuple #[.agg #[.float .f64 x,.float .f64 y],.int .i64 0])∧Bw w w':=by
 obtain⟨W,hW⟩:∃ W,W=((w.alloc (.cells #[.bool s1,.slice ao1 n1 cp1,.int .i64 e1] 28)).alloc (.cells #[.bool s2,.slice ao2 n2 cp2,.int .i64 e2] 28)).alloc (.cells #[.float .f64 0,.float .f64 0] 24):=⟨_,rfl⟩
 obtain⟨m1,m2,m3,hBW⟩:=three_new _ _ _ hW
 have HX:Hid (Bw w W∧W.heap[w.heap.size]?=some (.cells #[.bool s1,.slice ao1 n1 cp1,.int .i64 e1] 28 (0,0))∧W.heap[w.heap.size+1]?=some (.cells #[.bool s2,.slice ao2 n2 cp2,.int .i64 e2] 28 (0,0))∧IvB W (w.heap.size+1+1) 0 0):=⟨hBW,m1,m2,m3⟩
 have HK:Hid (∀ w',Bw W w'→(w'.cell? ⟨w.heap.size,0,none⟩=some (.bool s1)∧w'.cell? ⟨w.heap.size,1,none⟩=some (.slice ao1 n1 cp1)∧w'.cell? ⟨w.heap.size,2,none⟩=some (.int .i64 e1))∧(w'.cell? ⟨w.heap.size+1,0,none⟩=some (.bool s2)∧w'.cell? ⟨w.heap.size+1,1,none⟩=some (.slice ao2 n2 cp2)∧w'.cell? ⟨w.heap.size+1,2,none⟩=some (.int .i64 e2))∧IvF w' (w.heap.size+1+1) 0 0):=fun w' hb=>⟨(cells3N (box_later HX.out.2.1 hb (lt_of_box HX.out.2.1))).1,(cells3N (box_later HX.out.2.2.1 hb (lt_of_box HX.out.2.2.1))).1,HX.out.2.2.2.later hb⟩
 obtain⟨⟨c0,c1,c2⟩,⟨d0,d1,d2⟩,⟨i0,i1,z0,z1⟩⟩:=HK.out W (Below.refl _ _)
 clear m1 m2 m3 hBW
 go_enter Tryz.func6,Tryz.ntmps6
 have kk:=k1 W HX.out.1
 have K3:Hid _:=k3
 have K5:Hid _:=k5
 clear k1 k3 k5
 go_upto_region 1 with fail
 rw[←hW]
 clear hW
 go_wp2_with fail
 refine kk.mono ?_
 rintro r w1 ⟨rfl,hb1⟩
 clear kk
 clear c0 c1 c2 d0 d1 d2 i0 i1 z0 z1
 obtain⟨⟨c0,c1,c2⟩,⟨d0,d1,d2⟩,⟨i0,i1,z0,z1⟩⟩:=HK.out w1 hb1
 have kk:=K3.out w1 (HX.out.1.trans (hb1.mono HX.out.1.size))
 have HB1:Hid (Bw W w1):=hb1
 clear hb1
 go_wp2_with fail
 refine kk.mono ?_
 rintro r w2 ⟨rfl,hb2⟩
 clear kk
 clear c0 c1 c2 d0 d1 d2 i0 i1 z0 z1
 have HB2:Hid (Bw W w2):=HB1.out.trans (hb2.mono HB1.out.size)
 have kk:=K5.out w2
 clear hb2 HB1
 go_wp2_with fail
 refine kk.mono ?_
 rintro r w3 ⟨rfl,hb3⟩
 clear kk
 have hb4:Bw W w3:=HB2.out.trans (hb3.mono HB2.out.size)
 clear hb3 HB2
 obtain⟨⟨c0,c1,c2⟩,⟨d0,d1,d2⟩,⟨i0,i1,z0,z1⟩⟩:=HK.out w3 hb4
 have HB:Hid (Bw w w3):=HX.out.1.trans (hb4.mono HX.out.1.size)
 have HR:Hid (IvB w3 (w.heap.size+1+1) 0 0):=HX.out.2.2.2.box hb4
 clear hb4 HK HX
 go_wp2_with fail
 refine bodyPost_ret (results_cell_tmp_row rfl _ _ (w.heap.size+1+1) 24 #[.float .f64 x,.float .f64 y] (0,0) _ rfl (HR.out.set _ _) Tryz.underlying24 rfl iv_info) rfl ?_
 exact⟨rfl,below_store2 HB.out (by omega) _ _⟩
theorem dfrac_no1 (s1:Bool) (ao1:Option Addr) (n1 cp1:Nat) (e1:Int) (s2:Bool) (ao2:Option Addr) (n2 cp2:Nat) (e2:Int) (w:World) (k1:∀ W,Bw w W→Calls Tryz.prog 23 #[.agg #[.bool s1,.slice ao1 n1 cp1,.int .i64 e1]] W fun r w'=>r=.returned (.bool false)∧Bw W w'):Calls Tryz.prog 8 #[.agg #[.bool s1,.slice ao1 n1 cp1,.int .i64 e1],.agg #[.bool s2,.slice ao2 n2 cp2,.int .i64 e2]] w fun r w'=>r=.returned (.tuple #[.agg #[.float .f64 0,.float .f64 0],.int .i64 1])∧Bw w w':=by
 obtain⟨W,hW⟩:∃ W,W=((w.alloc (.cells #[.bool s1,.slice ao1 n1 cp1,.int .i64 e1] 27)).alloc (.cells #[.bool s2,.slice ao2 n2 cp2,.int .i64 e2] 27)).alloc (.cells #[.float .f64 0,.float .f64 0] 24):=⟨_,rfl⟩
 obtain⟨m1,m2,m3,hBW⟩:=three_new _ _ _ hW
 have HX:Hid (Bw w W∧W.heap[w.heap.size]?=some (.cells #[.bool s1,.slice ao1 n1 cp1,.int .i64 e1] 27 (0,0))∧W.heap[w.heap.size+1]?=some (.cells #[.bool s2,.slice ao2 n2 cp2,.int .i64 e2] 27 (0,0))∧IvB W (w.heap.size+1+1) 0 0):=⟨hBW,m1,m2,m3⟩
 have HK:Hid (∀ w',Bw W w'→(w'.cell? ⟨w.heap.size,0,none⟩=some (.bool s1)∧w'.cell? ⟨w.heap.size,1,none⟩=some (.slice ao1 n1 cp1)∧w'.cell? ⟨w.heap.size,2,none⟩=some (.int .i64 e1))∧(w'.cell? ⟨w.heap.size+1,0,none⟩=some (.bool s2)∧w'.cell? ⟨w.heap.size+1,1,none⟩=some (.slice ao2 n2 cp2)∧w'.cell? ⟨w.heap.size+1,2,none⟩=some (.int .i64 e2))∧IvF w' (w.heap.size+1+1) 0 0):=fun w' hb=>⟨(cells3N (box_later HX.out.2.1 hb (lt_of_box HX.out.2.1))).1,(cells3N (box_later HX.out.2.2.1 hb (lt_of_box HX.out.2.2.1))).1,HX.out.2.2.2.later hb⟩
 obtain⟨⟨c0,c1,c2⟩,⟨d0,d1,d2⟩,⟨i0,i1,z0,z1⟩⟩:=HK.out W (Below.refl _ _)
 clear m1 m2 m3 hBW
 go_enter Tryz.func8,Tryz.ntmps8
 have kk:=k1 W HX.out.1
 clear k1
 go_upto_region 1 with fail
 rw[←hW]
 clear hW
 go_wp2_with fail
 refine kk.mono ?_
 rintro r w1 ⟨rfl,hb1⟩
 clear kk
 clear c0 c1 c2 d0 d1 d2 i0 i1 z0 z1
 obtain⟨⟨c0,c1,c2⟩,⟨d0,d1,d2⟩,⟨i0,i1,z0,z1⟩⟩:=HK.out w1 hb1
 have HB:Hid (Bw w w1):=HX.out.1.trans (hb1.mono HX.out.1.size)
 have HR:Hid (IvB w1 (w.heap.size+1+1) 0 0):=HX.out.2.2.2.box hb1
 clear hb1 HK HX
 go_wp2_with fail
 refine bodyPost_ret (results_cell_tmp_row rfl _ _ (w.heap.size+1+1) 24 #[.float .f64 0,.float .f64 0] (0,0) _ rfl (HR.out.set _ _) Tryz.underlying24 rfl iv_info) rfl ?_
 exact⟨rfl,below_store2 HB.out (by omega) _ _⟩
theorem dfrac_no2 (s1:Bool) (ao1:Option Addr) (n1 cp1:Nat) (e1:Int) (s2:Bool) (ao2:Option Addr) (n2 cp2:Nat) (e2:Int) (w:World) (k1:∀ W,Bw w W→Calls Tryz.prog 23 #[.agg #[.bool s1,.slice ao1 n1 cp1,.int .i64 e1]] W fun r w'=>r=.returned (.bool true)∧Bw W w') (k2:∀ W,Bw w W→Calls Tryz.prog 23 #[.agg #[.bool s2,.slice ao2 n2 cp2,.int .i64 e2]] W fun r w'=>r=.returned (.bool false)∧Bw W w'):Calls Tryz.prog 8 #[.agg #[.bool s1,.slice ao1 n1 cp1,.int .i64 e1],.agg #[.bool s2,.slice ao2 n2 cp2,.int .i64 e2]] w fun r w'=>r=.returned (.tuple #[.agg #[.float .f64 0,.float .f64 0],.int .i64 1])∧Bw w w':=by
 obtain⟨W,hW⟩:∃ W,W=((w.alloc (.cells #[.bool s1,.slice ao1 n1 cp1,.int .i64 e1] 27)).alloc (.cells #[.bool s2,.slice ao2 n2 cp2,.int .i64 e2] 27)).alloc (.cells #[.float .f64 0,.float .f64 0] 24):=⟨_,rfl⟩
 obtain⟨m1,m2,m3,hBW⟩:=three_new _ _ _ hW
 have HX:Hid (Bw w W∧W.heap[w.heap.size]?=some (.cells #[.bool s1,.slice ao1 n1 cp1,.int .i64 e1] 27 (0,0))∧W.heap[w.heap.size+1]?=some (.cells #[.bool s2,.slice ao2 n2 cp2,.int .i64 e2] 27 (0,0))∧IvB W (w.heap.size+1+1) 0 0):=⟨hBW,m1,m2,m3⟩
 have HK:Hid (∀ w',Bw W w'→(w'.cell? ⟨w.heap.size,0,none⟩=some (.bool s1)∧w'.cell? ⟨w.heap.size,1,none⟩=some (.slice ao1 n1 cp1)∧w'.cell? ⟨w.heap.size,2,none⟩=some (.int .i64 e1))∧(w'.cell? ⟨w.heap.size+1,0,none⟩=some (.bool s2)∧w'.cell? ⟨w.heap.size+1,1,none⟩=some (.slice ao2 n2 cp2)∧w'.cell? ⟨w.heap.size+1,2,none⟩=some (.int .i64 e2))∧IvF w' (w.heap.size+1+1) 0 0):=fun w' hb=>⟨(cells3N (box_later HX.out.2.1 hb (lt_of_box HX.out.2.1))).1,(cells3N (box_later HX.out.2.2.1 hb (lt_of_box HX.out.2.2.1))).1,HX.out.2.2.2.later hb⟩
 obtain⟨⟨c0,c1,c2⟩,⟨d0,d1,d2⟩,⟨i0,i1,z0,z1⟩⟩:=HK.out W (Below.refl _ _)
 clear m1 m2 m3 hBW
 go_enter Tryz.func8,Tryz.ntmps8
 have kk:=k1 W HX.out.1
 clear k1
 go_upto_region 1 with fail
 rw[←hW]
 clear hW
 go_wp2_with fail
 refine kk.mono ?_
 rintro r w1 ⟨rfl,hb1⟩
 clear kk
 clear c0 c1 c2 d0 d1 d2 i0 i1 z0 z1
 obtain⟨⟨c0,c1,c2⟩,⟨d0,d1,d2⟩,⟨i0,i1,z0,z1⟩⟩:=HK.out w1 hb1
 have kk:=k2 w1 (HX.out.1.trans (hb1.mono HX.out.1.size))
 have HB1:Hid (Bw W w1):=hb1
 clear hb1 k2
 go_wp2_with fail
 refine kk.mono ?_
 rintro r w2 ⟨rfl,hb2'⟩
 clear kk
 clear c0 c1 c2 d0 d1 d2 i0 i1 z0 z1
 have hb2:Bw W w2:=HB1.out.trans (hb2'.mono HB1.out.size)
 clear hb2' HB1
 obtain⟨⟨c0,c1,c2⟩,⟨d0,d1,d2⟩,⟨i0,i1,z0,z1⟩⟩:=HK.out w2 hb2
 have HB:Hid (Bw w w2):=HX.out.1.trans (hb2.mono HX.out.1.size)
 have HR:Hid (IvB w2 (w.heap.size+1+1) 0 0):=HX.out.2.2.2.box hb2
 clear hb2 HK HX
 go_wp2_with fail
 refine bodyPost_ret (results_cell_tmp_row rfl _ _ (w.heap.size+1+1) 24 #[.float .f64 0,.float .f64 0] (0,0) _ rfl (HR.out.set _ _) Tryz.underlying24 rfl iv_info) rfl ?_
 exact⟨rfl,below_store2 HB.out (by omega) _ _⟩
theorem dfrac_z (s1:Bool) (ao1:Option Addr) (n1 cp1:Nat) (e1:Int) (s2:Bool) (ao2:Option Addr) (n2 cp2:Nat) (e2:Int) (w:World) (hz:((n2:Int)==0)=true) (k1:∀ W,Bw w W→Calls Tryz.prog 23 #[.agg #[.bool s1,.slice ao1 n1 cp1,.int .i64 e1]] W fun r w'=>r=.returned (.bool true)∧Bw W w') (k2:∀ W,Bw w W→Calls Tryz.prog 23 #[.agg #[.bool s2,.slice ao2 n2 cp2,.int .i64 e2]] W fun r w'=>r=.returned (.bool true)∧Bw W w'):Calls Tryz.prog 8 #[.agg #[.bool s1,.slice ao1 n1 cp1,.int .i64 e1],.agg #[.bool s2,.slice ao2 n2 cp2,.int .i64 e2]] w fun r w'=>r=.returned (.tuple #[.agg #[.float .f64 0,.float .f64 0],.int .i64 6])∧Bw w w':=by
 obtain⟨W,hW⟩:∃ W,W=((w.alloc (.cells #[.bool s1,.slice ao1 n1 cp1,.int .i64 e1] 27)).alloc (.cells #[.bool s2,.slice ao2 n2 cp2,.int .i64 e2] 27)).alloc (.cells #[.float .f64 0,.float .f64 0] 24):=⟨_,rfl⟩
 obtain⟨m1,m2,m3,hBW⟩:=three_new _ _ _ hW
 have HX:Hid (Bw w W∧W.heap[w.heap.size]?=some (.cells #[.bool s1,.slice ao1 n1 cp1,.int .i64 e1] 27 (0,0))∧W.heap[w.heap.size+1]?=some (.cells #[.bool s2,.slice ao2 n2 cp2,.int .i64 e2] 27 (0,0))∧IvB W (w.heap.size+1+1) 0 0):=⟨hBW,m1,m2,m3⟩
 have HK:Hid (∀ w',Bw W w'→(w'.cell? ⟨w.heap.size,0,none⟩=some (.bool s1)∧w'.cell? ⟨w.heap.size,1,none⟩=some (.slice ao1 n1 cp1)∧w'.cell? ⟨w.heap.size,2,none⟩=some (.int .i64 e1))∧(w'.cell? ⟨w.heap.size+1,0,none⟩=some (.bool s2)∧w'.cell? ⟨w.heap.size+1,1,none⟩=some (.slice ao2 n2 cp2)∧w'.cell? ⟨w.heap.size+1,2,none⟩=some (.int .i64 e2))∧IvF w' (w.heap.size+1+1) 0 0):=fun w' hb=>⟨(cells3N (box_later HX.out.2.1 hb (lt_of_box HX.out.2.1))).1,(cells3N (box_later HX.out.2.2.1 hb (lt_of_box HX.out.2.2.1))).1,HX.out.2.2.2.later hb⟩
 obtain⟨⟨c0,c1,c2⟩,⟨d0,d1,d2⟩,⟨i0,i1,z0,z1⟩⟩:=HK.out W (Below.refl _ _)
 clear m1 m2 m3 hBW
 go_enter Tryz.func8,Tryz.ntmps8
 have kk:=k1 W HX.out.1
 clear k1
 go_upto_region 1 with fail
 rw[←hW]
 clear hW
 go_wp2_with fail
 refine kk.mono ?_
 rintro r w1 ⟨rfl,hb1⟩
 clear kk
 clear c0 c1 c2 d0 d1 d2 i0 i1 z0 z1
 obtain⟨⟨c0,c1,c2⟩,⟨d0,d1,d2⟩,⟨i0,i1,z0,z1⟩⟩:=HK.out w1 hb1
 have kk:=k2 w1 (HX.out.1.trans (hb1.mono HX.out.1.size))
 have HB1:Hid (Bw W w1):=hb1
 clear hb1 k2
 go_wp2_with fail
 refine kk.mono ?_
 rintro r w2 ⟨rfl,hb2'⟩
 clear kk
 clear c0 c1 c2 d0 d1 d2 i0 i1 z0 z1
 have hb2:Bw W w2:=HB1.out.trans (hb2'.mono HB1.out.size)
 clear hb2' HB1
 obtain⟨⟨c0,c1,c2⟩,⟨d0,d1,d2⟩,⟨i0,i1,z0,z1⟩⟩:=HK.out w2 hb2
 have HB:Hid (Bw w w2):=HX.out.1.trans (hb2.mono HX.out.1.size)
 have HR:Hid (IvB w2 (w.heap.size+1+1) 0 0):=HX.out.2.2.2.box hb2
 clear hb2 HK HX
 go_wp2_with fail
 refine bodyPost_ret (results_cell_tmp_row rfl _ _ (w.heap.size+1+1) 24 #[.float .f64 0,.float .f64 0] (0,0) _ rfl (HR.out.set _ _) Tryz.underlying24 rfl iv_info) rfl ?_
 exact⟨rfl,below_store2 HB.out (by omega) _ _⟩
theorem dfrac_1 (s1:Bool) (ao1:Option Addr) (n1 cp1:Nat) (e1:Int) (s2:Bool) (ao2:Option Addr) (n2 cp2:Nat) (e2:Int) (F G x y u1 u2:Nat) (w:World) (hz:((n2:Int)==0)=false) (a1:Arg w ao1 n1 cp1 u1) (a2:Arg w ao2 n2 cp2 u2) (k1:∀ W,Bw w W→Calls Tryz.prog 23 #[.agg #[.bool s1,.slice ao1 n1 cp1,.int .i64 e1]] W fun r w'=>r=.returned (.bool true)∧Bw W w') (k2:∀ W,Bw w W→Calls Tryz.prog 23 #[.agg #[.bool s2,.slice ao2 n2 cp2,.int .i64 e2]] W fun r w'=>r=.returned (.bool true)∧Bw W w') (k3:∀ W,Arg W ao1 n1 cp1 u1→Arg W ao2 n2 cp2 u2→Calls Tryz.prog 25 #[.agg #[.bool s1,.slice ao1 n1 cp1,.int .i64 e1],.agg #[.bool s2,.slice ao2 n2 cp2,.int .i64 e2],.int .i64 1] W fun r w'=>r=.returned (.float .f64 F)∧Bw W w') (k4:∀ W,Arg W ao1 n1 cp1 u1→Arg W ao2 n2 cp2 u2→Calls Tryz.prog 25 #[.agg #[.bool s1,.slice ao1 n1 cp1,.int .i64 e1],.agg #[.bool s2,.slice ao2 n2 cp2,.int .i64 e2],.int .i64 3] W fun r w'=>r=.returned (.float .f64 G)∧Bw W w') (k5:∀ W,Calls Tryz.prog 24 #[.float .f64 F] W fun r w'=>r=.returned (.float .f64 x)∧w'=W) (k6:∀ W,Calls Tryz.prog 24 #[.float .f64 G] W fun r w'=>r=.returned (.float .f64 y)∧w'=W):Calls Tryz.prog 8 #[.agg #[.bool s1,.slice ao1 n1 cp1,.int .i64 e1],.agg #[.bool s2,.slice ao2 n2 cp2,.int .i64 e2]] w fun r w'=>r=.returned (.tuple #[.agg #[.float .f64 x,.float .f64 y],.int .i64 0])∧Bw w w':=by
 obtain⟨W,hW⟩:∃ W,W=((w.alloc (.cells #[.bool s1,.slice ao1 n1 cp1,.int .i64 e1] 27)).alloc (.cells #[.bool s2,.slice ao2 n2 cp2,.int .i64 e2] 27)).alloc (.cells #[.float .f64 0,.float .f64 0] 24):=⟨_,rfl⟩
 obtain⟨m1,m2,m3,hBW⟩:=three_new _ _ _ hW
 have HX:Hid (Bw w W∧W.heap[w.heap.size]?=some (.cells #[.bool s1,.slice ao1 n1 cp1,.int .i64 e1] 27 (0,0))∧W.heap[w.heap.size+1]?=some (.cells #[.bool s2,.slice ao2 n2 cp2,.int .i64 e2] 27 (0,0))∧IvB W (w.heap.size+1+1) 0 0):=⟨hBW,m1,m2,m3⟩
 have HK:Hid (∀ w',Bw W w'→(w'.cell? ⟨w.heap.size,0,none⟩=some (.bool s1)∧w'.cell? ⟨w.heap.size,1,none⟩=some (.slice ao1 n1 cp1)∧w'.cell? ⟨w.heap.size,2,none⟩=some (.int .i64 e1))∧(w'.cell? ⟨w.heap.size+1,0,none⟩=some (.bool s2)∧w'.cell? ⟨w.heap.size+1,1,none⟩=some (.slice ao2 n2 cp2)∧w'.cell? ⟨w.heap.size+1,2,none⟩=some (.int .i64 e2))∧IvF w' (w.heap.size+1+1) 0 0):=fun w' hb=>⟨(cells3N (box_later HX.out.2.1 hb (lt_of_box HX.out.2.1))).1,(cells3N (box_later HX.out.2.2.1 hb (lt_of_box HX.out.2.2.1))).1,HX.out.2.2.2.later hb⟩
 obtain⟨⟨c0,c1,c2⟩,⟨d0,d1,d2⟩,⟨i0,i1,z0,z1⟩⟩:=HK.out W (Below.refl _ _)
 clear m1 m2 m3 hBW
 go_enter Tryz.func8,Tryz.ntmps8
 have q1:=a1.later HX.out.1
 have q2:=a2.later HX.out.1
 have HQ:Hid (Arg W ao1 n1 cp1 u1∧Arg W ao2 n2 cp2 u2):=⟨q1,q2⟩
 have HKK:Hid _:=k3
 have HKL:Hid _:=k4
 have HKM:Hid _:=k5
 have HKN:Hid _:=k6
 clear a1 a2 q1 q2 k3 k4 k5 k6
 have kk:=k1 W HX.out.1
 clear k1
 go_upto_region 1 with fail
 rw[←hW]
 clear hW
 go_wp2_with fail
 refine kk.mono ?_
 rintro r w1 ⟨rfl,hb1⟩
 clear kk
 clear c0 c1 c2 d0 d1 d2 i0 i1 z0 z1
 obtain⟨⟨c0,c1,c2⟩,⟨d0,d1,d2⟩,⟨i0,i1,z0,z1⟩⟩:=HK.out w1 hb1
 have kk:=k2 w1 (HX.out.1.trans (hb1.mono HX.out.1.size))
 have HB1:Hid (Bw W w1):=hb1
 clear hb1 k2
 go_wp2_with fail
 refine kk.mono ?_
 rintro r w2 ⟨rfl,hb2'⟩
 clear kk
 clear c0 c1 c2 d0 d1 d2 i0 i1 z0 z1
 have hb2:Bw W w2:=HB1.out.trans (hb2'.mono HB1.out.size)
 clear hb2' HB1
 obtain⟨⟨c0,c1,c2⟩,⟨d0,d1,d2⟩,⟨i0,i1,z0,z1⟩⟩:=HK.out w2 hb2
 go_upto_region 5 with fail
 clear c0 c1 c2 d0 d1 d2 i0 i1 z0 z1
 obtain⟨q1,q2⟩:=HQ.out
 have k3:=HKK.out
 have k4:=HKL.out
 have k5:=HKM.out
 have k6:=HKN.out
 have m1:=box_later HX.out.2.1 hb2 (lt_of_box HX.out.2.1)
 have m2:=box_later HX.out.2.2.1 hb2 (lt_of_box HX.out.2.2.1)
 have m3:w2.heap[w.heap.size+1+1]?=some (.cells #[.float .f64 0,.float .f64 0] 24 (0,0)):=HX.out.2.2.2.box hb2
 have mB:Bw w w2:=HX.out.1.trans (hb2.mono HX.out.1.size)
 have hbx:∀ i,i<1→∃ cs,w2.heap[(fun _=>w.heap.size+1+1:Nat→Nat) i]?=some (.cells cs 24 (0,0))∧IvC cs:=fun i hi=>⟨_,m3,_,_,rfl⟩
 refine q_region follows_mixed [0,1,2,3,4,5,6,7,8,10] [9] [22,23,24,25,26,27,28,29,30,5] [[],[],[0,1],[2],[],[],[4,5],[6],[3,7],[]] [[8]] [8] (fun _=>4) (fun _=>w.heap.size+1+1) w.heap.size 24 IvC 2 w2 _ [isV (.agg #[.bool s1,.slice ao1 n1 cp1,.int .i64 e1]),isV (.agg #[.bool s2,.slice ao2 n2 cp2,.int .i64 e2]),isV (.float .f64 F),isV (.float .f64 x),isV (.agg #[.bool s1,.slice ao1 n1 cp1,.int .i64 e1]),isV (.agg #[.bool s2,.slice ao2 n2 cp2,.int .i64 e2]),isV (.float .f64 G),isV (.float .f64 y),isV (.agg #[.float .f64 x,.float .f64 y]),isV (.int .i64 0)] (by kernel_rfl) ⟨isV_stays _,isV_stays _,isV_stays _,isV_stays _,isV_stays _,isV_stays _,isV_stays _,isV_stays _,isV_stays _,isV_stays _,trivial⟩ ⟨isV_rows _ _ _,isV_rows _ _ _,isV_rows _ _ _,isV_rows _ _ _,isV_rows _ _ _,isV_rows _ _ _,isV_rows _ _ _,isV_rows _ _ _,isV_rows _ _ _,isV_rows _ _ _,trivial⟩ (by show ∀ s ∈ [22,23,24,25,26,27,28,29,30,5],s<31;decide) ?_ ?_ iv_info ?_ ?_ ?_ ?_ mB.size ?_
 ·intro i hi U u h
  obtain rfl:i=0:=Nat.lt_one_iff.1 hi
  obtain rfl:u=_:=h
  exact⟨_,rfl,rfl,⟨_,_,rfl⟩,by simp only[List.all_toArray,List.all_cons,List.all_nil,show ∀ z,(Value.float .f64 z).oneCell'=true from fun _=>rfl,Bool.and_self]⟩
 ·intro j hj o ho act U hK hoth hdep hrd
  have t2:act.tmps[(2:Nat)]?=some (Value.pointer (some ⟨w.heap.size,0,none⟩)):=(hoth 2 (by decide)).trans rfl
  have t3:act.tmps[(3:Nat)]?=some (Value.pointer (some ⟨w.heap.size+1,0,none⟩)):=(hoth 3 (by decide)).trans rfl
  have c2:=(cells3N ((hK.keep (w.heap.size) (lt_of_box m1) (fun i hi=>by show w.heap.size≠w.heap.size+1+1;omega)).trans m1)).1
  have c3:=(cells3N ((hK.keep (w.heap.size+1) (lt_of_box m2) (fun i hi=>by show w.heap.size+1≠w.heap.size+1+1;omega)).trans m2)).1
  have hj':j<10:=hj
  rcases(by omega:j=0∨j=1∨j=2∨j=3∨j=4∨j=5∨j=6∨j=7∨j=8∨j=9)with rfl|rfl|rfl|rfl|rfl|rfl|rfl|rfl|rfl|rfl
  ·obtain rfl:=Option.some.inj ho
   exact .inl ⟨rfl,owp_ldD rfl t2 c2.1 c2.2.1 c2.2.2 ⟨_,rfl,rfl,Below.refl _ _⟩⟩
  ·obtain rfl:=Option.some.inj ho
   exact .inl ⟨rfl,owp_ldD rfl t3 c3.1 c3.2.1 c3.2.2 ⟨_,rfl,rfl,Below.refl _ _⟩⟩
  ·obtain rfl:=Option.some.inj ho
   have y0:act.tmps[(22:Nat)]?=_:=dV (hdep 0 (by simp[dL])) rfl
   have y1:act.tmps[(23:Nat)]?=_:=dV (hdep 1 (by simp[dL])) rfl
   refine .inl ⟨rfl,owp_call rfl (enters Tryz.func25 (by kernel_rfl) (by kernel_rfl)) (map3c y0 y1) ?_⟩
   refine(k3 U (Arg.keepI hK hbx (q1.later hb2)) (Arg.keepI hK hbx (q2.later hb2))).mono ?_
   rintro r w' ⟨rfl,hb'⟩
   exact⟨_,rfl,_,rfl,rfl,hb'⟩
  ·obtain rfl:=Option.some.inj ho
   have y0:act.tmps[(24:Nat)]?=_:=dV (hdep 2 (by simp[dL])) rfl
   refine .inl ⟨rfl,owp_call rfl (enters Tryz.func24 (by kernel_rfl) (by kernel_rfl)) (map1t y0) ?_⟩
   refine(k5 U).mono ?_
   rintro r w' ⟨rfl,rfl⟩
   exact⟨_,rfl,_,rfl,rfl,Below.refl _ _⟩
  ·obtain rfl:=Option.some.inj ho
   exact .inl ⟨rfl,owp_ldD rfl t2 c2.1 c2.2.1 c2.2.2 ⟨_,rfl,rfl,Below.refl _ _⟩⟩
  ·obtain rfl:=Option.some.inj ho
   exact .inl ⟨rfl,owp_ldD rfl t3 c3.1 c3.2.1 c3.2.2 ⟨_,rfl,rfl,Below.refl _ _⟩⟩
  ·obtain rfl:=Option.some.inj ho
   have y0:act.tmps[(26:Nat)]?=_:=dV (hdep 4 (by simp[dL])) rfl
   have y1:act.tmps[(27:Nat)]?=_:=dV (hdep 5 (by simp[dL])) rfl
   refine .inl ⟨rfl,owp_call rfl (enters Tryz.func25 (by kernel_rfl) (by kernel_rfl)) (map3c y0 y1) ?_⟩
   refine(k4 U (Arg.keepI hK hbx (q1.later hb2)) (Arg.keepI hK hbx (q2.later hb2))).mono ?_
   rintro r w' ⟨rfl,hb'⟩
   exact⟨_,rfl,_,rfl,rfl,hb'⟩
  ·obtain rfl:=Option.some.inj ho
   have y0:act.tmps[(28:Nat)]?=_:=dV (hdep 6 (by simp[dL])) rfl
   refine .inl ⟨rfl,owp_call rfl (enters Tryz.func24 (by kernel_rfl) (by kernel_rfl)) (map1t y0) ?_⟩
   refine(k6 U).mono ?_
   rintro r w' ⟨rfl,rfl⟩
   exact⟨_,rfl,_,rfl,rfl,Below.refl _ _⟩
  ·obtain rfl:=Option.some.inj ho
   have y0:act.tmps[(25:Nat)]?=_:=dV (hdep 3 (by simp[dL])) rfl
   have y1:act.tmps[(29:Nat)]?=_:=dV (hdep 7 (by simp[dL])) rfl
   exact .inl ⟨rfl,owp_bldI rfl y0 y1 ⟨_,rfl,rfl,Below.refl _ _⟩⟩
  ·obtain rfl:=Option.some.inj ho
   exact .inl ⟨rfl,owp_cst8 rfl ⟨_,rfl,rfl,Below.refl _ _⟩⟩
 ·intro i hi
  obtain rfl:i=0:=Nat.lt_one_iff.1 hi
  exact⟨_,rfl,rfl⟩
 ·intro i hi
  exact⟨rfl,by decide⟩
 ·intro i hi
  exact⟨by show w.heap.size≤w.heap.size+1+1;omega,_,m3,rfl,_,_,rfl⟩
 ·intro i i' hi hi' _
  exact(Nat.lt_one_iff.1 hi).trans (Nat.lt_one_iff.1 hi').symm
 ·intro u U hK hu hcs
  obtain⟨csa,ya,za⟩:=hcs 0 (by decide)
  have u8:u 8=.agg #[.float .f64 x,.float .f64 y]:=hu 8 (by decide)
  have u9:u 9=.int .i64 0:=hu 9 (by decide)
  have ya':u 8=.agg csa:=ya
  rw[u8] at ya'
  obtain rfl:=Value.agg.inj ya'
  have HXX:Hid (U.heap[w.heap.size+1+1]?=some (.cells #[.float .f64 x,.float .f64 y] 24 (0,0))∧Bw w U):=⟨za,mB.trans hK.below⟩
  clear hu hcs ya za ya' hK q1 q2 k3 k4 k5 k6 m1 m2 m3 mB hbx hb2 HX HK HQ HKK HKL HKM HKN
  simp only[putL,show List.range 10 = [0,1,2,3,4,5,6,7,8,9] from rfl,List.length_cons,List.length_nil,List.getD_cons_zero,List.getD_cons_succ,List.map_cons,List.map_nil,List.cons_append,List.nil_append,List.foldl_cons,List.foldl_nil,Nat.reduceLT,Nat.reduceMod,Nat.reduceDiv,Nat.reduceMul,Nat.reduceAdd,Nat.reduceEqDiff,reduceIte,Nat.one_ne_zero,Act.put,List.setIfInBounds_toArray,List.set_cons_zero,List.set_cons_succ]
  rw[u9]
  go_wp2_with fail
  refine bodyPost_ret (results_cell_tmp_row rfl _ _ (w.heap.size+1+1) 24 #[.float .f64 x,.float .f64 y] (0,0) _ rfl HXX.out.1 Tryz.underlying24 rfl iv_info) rfl ?_
  exact⟨rfl,HXX.out.2⟩
theorem dsimp_core {x y p Q:Nat} (hx:x<18446744073709551616) (hy:y<18446744073709551616) (nx:neg x=false) (ny:neg y=false) (hle:fU x*dU y≤cU y*kU) (hS:Smp (fU x) kU (cU y) (dU y) p Q) :
  ∃ tA tB tC tD:Bool×Nat×Int,(∀ W,Calls Tryz.prog 18 #[.float .f64 x] W fun r w'=>Out2D W tA tB r w')∧(mag y<9218868437227405312→∀ W,Calls Tryz.prog 18 #[.float .f64 y] W fun r w'=>Out2D W tC tD r w')∧(¬ mag y<9218868437227405312→tC=un 1 0∧tD=nilN) ∧
   ∀ (s1:Bool) (ao1:Option Addr) (n1 cp1:Nat) (e1:Int) (s2:Bool) (ao2:Option Addr) (n2 cp2:Nat) (e2:Int) (s3:Bool) (ao3:Option Addr) (n3 cp3:Nat) (e3:Int) (s4:Bool) (ao4:Option Addr) (n4 cp4:Nat) (e4:Int) (W:World),DN W (.agg #[.bool s1,.slice ao1 n1 cp1,.int .i64 e1]) tA→DN W (.agg #[.bool s2,.slice ao2 n2 cp2,.int .i64 e2]) tB→DN W (.agg #[.bool s3,.slice ao3 n3 cp3,.int .i64 e3]) tC→DN W (.agg #[.bool s4,.slice ao4 n4 cp4,.int .i64 e4]) tD→Calls Tryz.prog 19 #[.agg #[.bool s1,.slice ao1 n1 cp1,.int .i64 e1],.agg #[.bool s2,.slice ao2 n2 cp2,.int .i64 e2],.agg #[.bool s3,.slice ao3 n3 cp3,.int .i64 e3],.agg #[.bool s4,.slice ao4 n4 cp4,.int .i64 e4]] W fun r w'=>Out2D W (un (p:Int) 0) (un (Q:Int) 0) r w':=by
 obtain⟨A,B,s,hB,hs,eA,eB,lA,lB,kA⟩:=dparts hx nx
 have hbU:bU≤20000:=by unfold bU;omega
 by_cases hf:mag y<9218868437227405312
 ·obtain⟨C,D,t,hD,ht,eC,eD,lC,lD,kC⟩:=dparts hy ny
  have e1:cU y=C*t:=by unfold cU;rw[if_pos hf,eC]
  have e2:dU y=D*t:=by unfold dU;rw[if_pos hf,eD]
  obtain⟨l',h'⟩:=smp_down hS hs ht eA eB e1 e2 hB hle
  exact⟨_,_,_,_,kA,fun _=>kC,fun h=>absurd hf h,fun s1 ao1 n1 cp1 e1 s2 ao2 n2 cp2 e2 s3 ao3 n3 cp3 e3 s4 ao4 n4 cp4 e4 W d1 d2 d3 d4=>dsmp8 h' bU l' hbU lA lB lC lD _ _ _ _ _ _ _ _ _ _ _ _ _ _ _ _ _ _ _ _ W d1 d2 d3 d4⟩
 ·have e1:cU y=1*kU:=by unfold cU;rw[if_neg hf,Nat.one_mul]
  have e2:dU y=0*kU:=by unfold dU;rw[if_neg hf,Nat.zero_mul]
  obtain⟨l',h'⟩:=smp_down hS hs kU_pos eA eB e1 e2 hB hle
  refine⟨_,_,un 1 0,nilN,kA,fun h=>absurd h hf,fun _=>⟨rfl,rfl⟩,fun s1 ao1 n1 cp1 e1 s2 ao2 n2 cp2 e2 s3 ao3 n3 cp3 e3 s4 ao4 n4 cp4 e4 W d1 d2 d3 d4=>?_⟩
  rw[←un_0 (p:=0)] at d4
  exact dsmp8 h' bU l' hbU lA lB (Nat.one_lt_two_pow (by unfold bU;omega)) (Nat.two_pow_pos _) _ _ _ _ _ _ _ _ _ _ _ _ _ _ _ _ _ _ _ _ W d1 d2 d3 d4
theorem le_big {y:Nat} (hy:y<18446744073709551616) (ny:neg y=false) (my:mag y≤9218868437227405312):(FloatKind.f64.format.order y 9218868437227405311==some Ordering.lt||FloatKind.f64.format.order y 9218868437227405311==some Ordering.eq)=decide (mag y<9218868437227405312):=by
 rw[ord_le y _ hy (by omega)]
 unfold le
 have e:stp y=(mag y:Int):=by unfold stp sgn;rw[ny];rfl
 rw[show isNaN y=false from by unfold isNaN;exact decide_eq_false (by omega),show isNaN 9218868437227405311=false by decide,show stp 9218868437227405311=9218868437227405311 by decide,e]
 simp only[Bool.not_false,Bool.true_and]
 congr 1
 exact propext ⟨fun h=>by omega,fun h=>by omega⟩
theorem dsimple_ok {a b:Nat} {P:Int} {Q:Nat} (ha:a<18446744073709551616) (hb:b<18446744073709551616) (hv:vI a b=true) (hSM:SM a b P Q) (w:World):Calls Tryz.prog 5 #[.agg #[.float .f64 a,.float .f64 b]] w fun r w'=>Out3D w (un P 0) (un (Q:Int) 0) 0 r w':=by
 obtain⟨na,nb,hs,h1,h2,a0,b0⟩:=vI_all hv
 have kv:∀ W,Bw w W→Calls Tryz.prog 16 #[.agg #[.float .f64 a,.float .f64 b]] W fun r w'=>r=.returned (.bool true)∧Bw W w':=fun W _=>by
  have:=d8valid a b ha hb W
  rw[hv] at this
  exact this
 rcases hSM with ⟨c,p,rfl,hle,hS⟩|⟨c,p,rfl,hle,hS⟩|⟨c1,c2,rfl,rfl⟩
 ·have fa:=flp ha (by omega) a0
  have fb:=flp hb (by omega) b0
  obtain⟨tA,tB,tC,tD,k2,k3,k3',k4⟩:=dsimp_core ha hb fa.1 fb.1 hle hS
  have o1:=ord_lt a 0 ha (by omega)
  rw[lt_0r na,decide_eq_false (by omega)] at o1
  have o2:=ord_lt b 0 hb (by omega)
  rw[lt_0r nb,decide_eq_false (by omega)] at o2
  have o3:=le_big hb fb.1 (nn_mag nb)
  have l1:=ord_le a 0 ha (by omega)
  rw[le_0r na,decide_eq_false (by omega)] at l1
  have g1:=ord_ge b 0 hb (by omega)
  rw[le_0l nb,decide_eq_true (by omega)] at g1
  exact dsimp8_all a b w false _ a b tA tB tC tD _ _ _ l1 g1 o2 o3 ⟨rfl,rfl⟩ kv (fun W _=>k2 W) (fun h W _=>k3 (of_decide_eq_true h) W) (fun h=>k3' (of_decide_eq_false h)) (fun s1 ao1 n1 cp1 e1 s2 ao2 n2 cp2 e2 s3 ao3 n3 cp3 e3 s4 ao4 n4 cp4 e4 W _=>k4 s1 ao1 n1 cp1 e1 s2 ao2 n2 cp2 e2 s3 ao3 n3 cp3 e3 s4 ao4 n4 cp4 e4 W) rfl
 ·have fa:=flq (a:=a) (by omega)
  have fb:=flq c
  have na':stp (ngt a) = -stp a:=ngt_stp ha
  have nb':stp (ngt b) = -stp b:=ngt_stp hb
  have ga:neg (ngt a)=false:=by rw[ngt_neg ha,fa.1];rfl
  have gb:neg (ngt b)=false:=by rw[ngt_neg hb,fb.1];rfl
  obtain⟨tA,tB,tC,tD,k2,k3,k3',k4⟩:=dsimp_core (ngt_lt hb) (ngt_lt ha) gb ga hle hS
  have o1:=ord_lt a 0 ha (by omega)
  rw[lt_0r na,decide_eq_true (by omega)] at o1
  have o2:=ord_lt b 0 hb (by omega)
  rw[lt_0r nb,decide_eq_true (by omega)] at o2
  have l1:=ord_le a 0 ha (by omega)
  rw[le_0r na,decide_eq_true (by omega)] at l1
  have g1:=ord_ge b 0 hb (by omega)
  rw[le_0l nb,decide_eq_false (by omega)] at g1
  have o3:=le_big (ngt_lt ha) ga (by rw[ngt_mag ha];exact nn_mag na)
  exact dsimp8_all a b w true _ (ngt b) (ngt a) tA tB tC tD _ _ _ l1 g1 o2 o3 ⟨(negF b hb).symm,(negF a ha).symm⟩ kv (fun W _=>k2 W) (fun h W _=>k3 (of_decide_eq_true h) W) (fun h=>k3' (of_decide_eq_false h)) (fun s1 ao1 n1 cp1 e1 s2 ao2 n2 cp2 e2 s3 ao3 n3 cp3 e3 s4 ao4 n4 cp4 e4 W _=>k4 s1 ao1 n1 cp1 e1 s2 ao2 n2 cp2 e2 s3 ao3 n3 cp3 e3 s4 ao4 n4 cp4 e4 W) gN_un.symm
 ·have o1:=ord_le a 0 ha (by omega)
  rw[le_0r na,decide_eq_true c1] at o1
  have o2:=ord_ge b 0 hb (by omega)
  rw[le_0l nb,decide_eq_true c2] at o2
  rw[un_0]
  exact dsimp8_0 a b w o1 o2 kv
theorem dsimple_no {a b:Nat} (ha:a<18446744073709551616) (hb:b<18446744073709551616) (hv:vI a b=false) (w:World):Calls Tryz.prog 5 #[.agg #[.float .f64 a,.float .f64 b]] w fun r w'=>Out3D w nilN nilN 1 r w' :=
 dsimp8_no a b w (fun W _=>by
  have:=d8valid a b ha hb W
  rw[hv] at this
  exact this)
theorem psimple_sm {a b:Nat} (ha:a<18446744073709551616) (hb:b<18446744073709551616) (hv:vI a b=true):∃ (P:Int) (Q:Nat),SM a b P Q∧∀ w,Tab32 w→Ie.Tab w→Calls Tryz.prog 4 #[.agg #[.float .f64 a,.float .f64 b]] w fun r w'=>Out2N w (un P 0) (un (Q:Int) 0) 0 r w':=by
 obtain⟨na,nb,hs,h1,h2,a0,b0⟩:=vI_all hv
 have kv:∀ W,Calls Tryz.prog 12 #[.agg #[.float .f64 a,.float .f64 b]] W fun r w'=>r=.returned (.bool true)∧Bw W w':=fun W=>by
  have:=svalid a b ha hb W
  rw[hv] at this
  exact this
 have km:∀ W,Calls Tryz.prog 14 #[.agg #[.float .f64 a,.float .f64 b]] W fun r w'=>r=.returned (.agg #[.float .f64 (mgX a b),.float .f64 (mgY a b)])∧Bw W w':=fun W=>smag a b W ha hb na nb
 have ol:=ord_lt b 0 hb (by omega)
 rw[lt_0r nb] at ol
 unfold mgX mgY at km
 rw[le_0l na,le_0r nb] at km
 by_cases c1:0≤stp a
 ·rw[decide_eq_true c1] at km
  simp only[if_true] at km
  rw[decide_eq_false (by omega)] at ol
  have fa:=flp ha c1 a0
  have fb:=flp hb (by omega) b0
  have ma:mag a<9218868437227405312:=by omega
  obtain⟨P,Q,hle,hS⟩:=smp_of ha hb fa.1 ma fb.1 hs
  obtain⟨q0,qk,pk,lo,hi,mn⟩:=smp_sv hle hS
  refine⟨P,Q,?_,fun w hT hJ=>?_⟩
  ·by_cases c0:stp a=0
   ·refine .inr (.inr ⟨by omega,by omega,?_⟩)
    have ea:a=0:=by
     rcases(stp_zero ha).1 c0 with e|e
     ·exact e
     ·exact absurd e a0
    have g1:=(smp_le hS hle).1.1
    have g2:=((smp_in hS hle).2 0 1 (by omega) (by rw[ea,fU_0];omega) (by omega)).2
    rw[ea,fU_0] at g1
    exact⟨by omega,by omega⟩
   ·exact .inl ⟨by omega,P,rfl,hle,hS⟩
  ·exact psimp_pos a b a b _ _ w ol (fun W _=>kv W) (fun W _=>km W) (fun W hW=>simp_un ha hb fa.1 ma fb.1 (nn_mag nb) hle hS (hT.later hW) (Tab.later hJ hW))
 ·rw[decide_eq_false c1] at km
  have fa:=flq (a:=a) (by omega)
  have na':stp (ngt a) = -stp a:=ngt_stp ha
  have nb':stp (ngt b) = -stp b:=ngt_stp hb
  have ga:neg (ngt a)=false:=by rw[ngt_neg ha,fa.1];rfl
  by_cases c2:stp b<0
  ·rw[decide_eq_true (by omega:stp b≤0),pl_id (x:=ngt b) (by omega),pl_id (x:=ngt a) (by omega)] at km
   simp only[if_true,if_false,Bool.false_eq_true] at km
   rw[decide_eq_true c2] at ol
   have fb:=flq c2
   have gb:neg (ngt b)=false:=by rw[ngt_neg hb,fb.1];rfl
   have mb:mag b<9218868437227405312:=by omega
   have mb':mag (ngt b)<9218868437227405312:=by rw[ngt_mag hb];exact mb
   obtain⟨P,Q,hle,hS⟩:=smp_of (ngt_lt hb) (ngt_lt ha) gb mb' ga (by omega)
   obtain⟨q0,qk,pk,lo,hi,mn⟩:=smp_sv hle hS
   rw[ngt_mag ha,fU_ngt ha] at hi mn
   rw[fU_ngt hb] at lo mn
   refine⟨-(P:Int),Q,.inr (.inl ⟨c2,P,rfl,hle,hS⟩),fun w hT hJ=>?_⟩
   ·exact psimp_neg a b (ngt b) (ngt a) (un (P:Int) 0) _ _ w ol (fun W _=>kv W) (fun W _=>km W) (fun W hW=>simp_un (ngt_lt hb) (ngt_lt ha) gb mb' ga (by rw[ngt_mag ha];exact nn_mag na) hle hS (hT.later hW) (Tab.later hJ hW)) (fun W X _ hX=>pneg_un (b:=bU) (by rw[Int.natAbs_natCast];exact pk) (by unfold bU;omega) hX)
  ·rw[decide_eq_false c2] at ol
   have fb:=flp hb (by omega) b0
   obtain⟨y,hy,yn,ym,y0,km⟩:∃ y,y<18446744073709551616∧neg y=false∧mag y≤9218868437227405312∧0≤stp y∧∀ W,Calls Tryz.prog 14 #[.agg #[.float .f64 a,.float .f64 b]] W fun r w'=>r=.returned (.agg #[.float .f64 0,.float .f64 y])∧Bw W w':=by
    by_cases c3:stp b≤0
    ·rw[decide_eq_true c3,pl_id (x:=ngt a) (by omega)] at km
     simp only[if_true,if_false,Bool.false_eq_true] at km
     have eb:b=0:=by
      rcases(stp_zero hb).1 (by omega)with e|e
      ·exact e
      ·exact absurd e b0
     have e0:pl (ngt b)=0:=by rw[eb];decide
     rw[e0] at km
     exact⟨ngt a,ngt_lt ha,ga,by rw[ngt_mag ha];exact nn_mag na,by omega,km⟩
    ·rw[decide_eq_false c3] at km
     simp only[if_true,if_false,Bool.false_eq_true] at km
     have e:fMax (ngt a) b=b∨fMax (ngt a) b=ngt a:=by
      unfold fMax
      split
      ·exact .inl rfl
      ·split
       ·exact .inr rfl
       ·split
        ·exact .inl rfl
        ·exact .inr rfl
     rcases e with e|e
     ·rw[e] at km
      exact⟨b,hb,fb.1,nn_mag nb,by omega,km⟩
     ·rw[e] at km
      exact⟨ngt a,ngt_lt ha,ga,by rw[ngt_mag ha];exact nn_mag na,by omega,km⟩
   obtain⟨P,Q,hle,hS⟩:=smp_of (x:=0) (by omega) hy (by decide) (by decide) yn (by rw[show stp 0=0 by decide];exact y0)
   have g1:=(smp_le hS hle).1.1
   have g2:=((smp_in hS hle).2 0 1 (by omega) (by rw[fU_0];omega) (by omega)).2
   have g3:=(smp_pos hS hle).1
   rw[fU_0] at g1
   have eP:P=0:=by omega
   have eQ:Q=1:=by omega
   refine⟨0,1,.inr (.inr ⟨by omega,by omega,rfl,rfl⟩),fun w hT hJ=>?_⟩
   ·have k:=psimp_pos a b 0 y (un (P:Int) 0) (un (Q:Int) 0) w ol (fun W _=>kv W) (fun W _=>km W) (fun W hW=>simp_un (by omega) hy (by decide) (by decide) yn ym hle hS (hT.later hW) (Tab.later hJ hW))
    rw[eP,eQ] at k
    exact k
def OutI (W:World) (X Y:Nat) (E:Int) (r:Ending) (w':World):Prop:=r=.returned (.tuple #[.agg #[.float .f64 X,.float .f64 Y],.int .i64 E])∧Bw W w'
theorem join_Fr {na nb:Bool} {ua va:Option Addr} {un uc vn vc x y:Nat} {ea eb:Int} {w:World} (hT:Tab32 w) (h1:Arg w ua un uc x) (h2:Arg w va vn vc y) (hx:dlen x≤un) (hy:dlen y≤vn) :
  ∃ X Y E,X<18446744073709551616∧Y<18446744073709551616 ∧
   (∀ W A B,Bw w W→PI na un x ea W A→PI nb vn y eb W B→Calls Tryz.prog 6 #[A,B] W fun r w'=>OutI W X Y E r w') ∧
   (∀ W,Bw w W→Calls Tryz.prog 8 #[.agg #[.bool na,.slice ua un uc,.int .i64 ea],.agg #[.bool nb,.slice va vn vc,.int .i64 eb]] W fun r w'=>OutI W X Y E r w'):=by
 have kM:∀ V,(okN na un x ea&&okN nb vn y eb)=V→∀ W pa pc qa qc,At W pa un x→At W qa vn y→∀ W' g,Bw W W'→W'.heap[g]?=some (.cells #[.bool na,.slice pa un pc,.int .i64 ea,.bool nb,.slice qa vn qc,.int .i64 eb] 28 (0,0))→Calls Tryz.prog 44 #[.slice (some ⟨g,0,none⟩) 2 2] W' fun r w'=>r=.returned (.bool V)∧Bw W' w':=fun V hV W pa pc qa qc p2 q2 W' g hW' hg=>by
  have:=maybe2_at hg (p2.later hW') (q2.later hW') h1.small h2.small
  rw[hV] at this
  exact this
 have v1:∀ V,okN na un x ea=V→∀ W,Bw w W→Calls Tryz.prog 23 #[.agg #[.bool na,.slice ua un uc,.int .i64 ea]] W fun r w'=>r=.returned (.bool V)∧Bw W w':=fun V hV W hW=>by
  have:=rvalid (s:=na) (e:=ea) (h1.later hW)
  rw[hV] at this
  exact this
 have v2:∀ V,okN nb vn y eb=V→∀ W,Bw w W→Calls Tryz.prog 23 #[.agg #[.bool nb,.slice va vn vc,.int .i64 eb]] W fun r w'=>r=.returned (.bool V)∧Bw W w':=fun V hV W hW=>by
  have:=rvalid (s:=nb) (e:=eb) (h2.later hW)
  rw[hV] at this
  exact this
 by_cases hno:(okN na un x ea&&okN nb vn y eb)=false
 ·refine⟨0,0,1,by omega,by omega,fun W X Y hW hX hY=>?_,fun W hW=>?_⟩
  ·obtain⟨v,b,rfl,d1⟩:=hX
   obtain⟨v',b',rfl,d2⟩:=hY
   obtain⟨pa,pc,rfl,p1,p2⟩:=d1.at
   obtain⟨qa,qc,rfl,q1,q2⟩:=d2.at
   exact pfrac_no na pa un pc ea nb qa vn qc eb 1 W (by decide) (fun W' hW'=>pratio_no na nb pa qa un pc vn qc ea eb 1 false W' (fun h=>by cases h) (kM _ hno W' pa pc qa qc (p2.later hW') (q2.later hW')))
  ·cases o1:okN na un x ea
   ·exact dfrac_no1 na ua un uc ea nb va vn vc eb W (fun W' hW'=>v1 _ o1 W' (hW.trans (hW'.mono hW.size)))
   ·have o2:okN nb vn y eb=false:=by rw[o1] at hno;exact hno
    exact dfrac_no2 na ua un uc ea nb va vn vc eb W (fun W' hW'=>v1 _ o1 W' (hW.trans (hW'.mono hW.size))) (fun W' hW'=>v2 _ o2 W' (hW.trans (hW'.mono hW.size)))
 ·have hok:(okN na un x ea&&okN nb vn y eb)=true:=by
   cases h:(okN na un x ea&&okN nb vn y eb)
   ·exact absurd h hno
   ·rfl
  have hok2:=hok
  rw[Bool.and_eq_true] at hok2
  obtain⟨o1,o2⟩:=hok2
  obtain rfl:=okN_len hx o1
  obtain rfl:=okN_len hy o2
  have ok1:Ok (na,x,ea):=o1
  have ok2:Ok (nb,y,eb):=o2
  have f1:=ok1.facts
  have f2:=ok2.facts
  simp only at f1 f2
  have bx:=bl_le_dlen x
  have by':=bl_le_dlen y
  by_cases hy0:y=0
  ·subst hy0
   refine⟨0,0,6,by omega,by omega,fun W X Y hW hX hY=>?_,fun W hW=>?_⟩
   ·obtain⟨v,b,rfl,d1⟩:=hX
    obtain⟨v',b',rfl,d2⟩:=hY
    obtain⟨pa,pc,rfl,p1,p2⟩:=d1.at
    obtain⟨qa,qc,rfl,q1,q2⟩:=d2.at
    refine pfrac_no na pa _ pc ea nb qa _ qc eb 6 W (by decide) (fun W' hW'=>?_)
    have km:=kM _ hok W' pa pc qa qc (p2.later hW') (q2.later hW')
    rw[dlen_zero] at km ⊢
    exact pratio_z na nb pa qa _ pc qc ea eb 1 W' (by decide) km
   ·exact dfrac_z na ua _ uc ea nb va _ vc eb W (by rw[dlen_zero];rfl) (fun W' hW'=>v1 _ o1 W' (hW.trans (hW'.mono hW.size))) (fun W' hW'=>v2 _ o2 W' (hW.trans (hW'.mono hW.size)))
  ·have hn1:((dlen y:Int)==0)=false:=len_ne (n:=0) hy0
   by_cases hx0:x=0
   ·subst hx0
    refine⟨pl 0,pl 0,0,by decide,by decide,fun W X Y hW hX hY=>?_,fun W hW=>?_⟩
    ·obtain⟨v,b,rfl,d1⟩:=hX
     obtain⟨v',b',rfl,d2⟩:=hY
     obtain⟨pa,pc,rfl,p1,p2⟩:=d1.at
     obtain⟨qa,qc,rfl,q1,q2⟩:=d2.at
     have kr:∀ (m:Int),((m==1)||(m==2)||(m==3))=true→∀ W',Bw W W'→Calls Tryz.prog 21 #[.agg #[.bool na,.slice pa (dlen 0) pc,.int .i64 ea],.agg #[.bool nb,.slice qa (dlen y) qc,.int .i64 eb],.int .i64 m] W' fun r w'=>Out2 W' 0 0 r w':=fun m hm W' hW'=>by
      have km:=kM _ hok W' pa pc qa qc (p2.later hW') (q2.later hW')
      rw[dlen_zero] at km ⊢
      exact pratio_a0 na nb pa qa pc _ qc ea eb m W' hm hn1 km
     exact pfrac_1 na pa _ pc ea nb qa _ qc eb 0 0 _ _ W (kr 1 (by decide)) (kr 3 (by decide)) (fun W'=>sbetween 0 0 W' (by omega) (by omega))
    ·have q:=dfrac_1 na ua (dlen 0) uc ea nb va (dlen y) vc eb 0 0 (pl 0) (pl 0) 0 y W hn1 (h1.later hW) (h2.later hW) (fun W' hW'=>v1 _ o1 W' (hW.trans (hW'.mono hW.size))) (fun W' hW'=>v2 _ o2 W' (hW.trans (hW'.mono hW.size))) (fun W' _ _=>by rw[dlen_zero];exact rratioto_0 _ _ _ _ _ _ _ _ _ _ _) (fun W' _ _=>by rw[dlen_zero];exact rratioto_0 _ _ _ _ _ _ _ _ _ _ _) (fun W'=>dpl 0 (by omega) W') (fun W'=>dpl 0 (by omega) W')
     exact q
   ·have hn0:((dlen x:Int)==0)=false:=len_ne (n:=0) hx0
    obtain⟨k,hk⟩:∃ n:Nat,max 0 (64+(bl y:Int) - (bl x:Int))=(n:Int):=⟨(max 0 (64+(bl y:Int) - (bl x:Int))).toNat,by omega⟩
    obtain⟨F,hF⟩:∃ F:Int→Nat,F=fun m=>tfF (na != nb) (decide (x*2^k % y=0)) (x*2^k / y) (ea - eb - k) m:=⟨_,rfl⟩
    have Fl:∀ m:Int,1≤m∧m≤3→F m<18446744073709551616:=fun m hm=>by rw[hF];exact tfF_lt' hm
    refine⟨pl (F 1),pl (F 3),0,pl_lt (Fl 1 (by omega)),pl_lt (Fl 3 (by omega)),fun W X Y hW hX hY=>?_,fun W hW=>?_⟩
    ·obtain⟨v,b,rfl,d1⟩:=hX
     obtain⟨v',b',rfl,d2⟩:=hY
     obtain⟨pa,pc,e1,i1⟩:=dn_pn (s:=na) (e:=ea) d1
     obtain⟨qa,qc,e2,i2⟩:=dn_pn (s:=nb) (e:=eb) d2
     simp only at e1 i1 e2 i2
     rw[e1,e2]
     have kr:∀ (m:Int),1≤m∧m≤3→∀ W',Bw W W'→Calls Tryz.prog 21 #[.agg #[.bool na,.slice pa (dlen x) pc,.int .i64 ea],.agg #[.bool nb,.slice qa (dlen y) qc,.int .i64 eb],.int .i64 m] W' fun r w'=>Out2 W' (F m) 0 r w':=fun m hm W' hW'=>by
      rw[hF]
      refine pratio_1 na nb pa qa _ pc _ qc x y k (bl x) (bl y) ea eb m (na != nb) W' (rfl:(!(na==nb))=(na != nb)) ((hT.later hW).later hW') (i1.later hW') (i2.later hW') (by omega) (by omega) hy0 (by omega) (by omega) (by omega) (by omega) (by omega) rfl rfl (by omega) (by omega) hk (by omega) hn0 hn1 (fun W'' g hW'' hg=>?_)
      have:=maybe2 hg ((i1.later hW').later hW'') ((i2.later hW').later hW'') (by omega) (by omega)
      rw[o1,o2] at this
      exact this
     exact pfrac_1 na pa _ pc ea nb qa _ qc eb (F 1) (F 3) _ _ W (kr 1 (by omega)) (kr 3 (by omega)) (fun W'=>sbetween _ _ W' (Fl 1 (by omega)) (Fl 3 (by omega)))
    ·have rt:∀ (m:Int),1≤m∧m≤3→∀ W',Arg W' ua (dlen x) uc x→Arg W' va (dlen y) vc y→Calls Tryz.prog 25 #[.agg #[.bool na,.slice ua (dlen x) uc,.int .i64 ea],.agg #[.bool nb,.slice va (dlen y) vc,.int .i64 eb],.int .i64 m] W' fun r w'=>r=.returned (.float .f64 (F m))∧Bw W' w':=fun m hm W' a1 a2=>by
      rw[hF]
      exact rratioto a1 a2 f1.1 f2.1 ⟨by omega,by omega⟩ ⟨by omega,by omega⟩ hx0 hy0 hm hk
     exact dfrac_1 na ua (dlen x) uc ea nb va (dlen y) vc eb (F 1) (F 3) _ _ x y W hn1 (h1.later hW) (h2.later hW) (fun W' hW'=>v1 _ o1 W' (hW.trans (hW'.mono hW.size))) (fun W' hW'=>v2 _ o2 W' (hW.trans (hW'.mono hW.size))) (rt 1 (by omega)) (rt 3 (by omega)) (fun W'=>dpl _ (Fl 1 (by omega)) W') (fun W'=>dpl _ (Fl 3 (by omega)) W')
end Go.Proofs.YtcdkkpjilgmncaaGreatDoor
