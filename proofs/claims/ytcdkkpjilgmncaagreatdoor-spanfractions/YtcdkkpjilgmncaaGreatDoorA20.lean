/- Own work: contracts of the program's functions, part 20: PX2 FSA. -/
import Derived.Test.YtcdkkpjilgmncaaGreatDoorA16
import Derived.Test.YtcdkkpjilgmncaaGreatDoorA17
import Derived.Test.YtcdkkpjilgmncaaGreatDoorA19

set_option maxHeartbeats 16000000
set_option maxRecDepth 200000
set_option linter.unusedVariables false
set_option linter.unusedSimpArgs false
namespace Go.Proofs.YtcdkkpjilgmncaaGreatDoor
open Go.RowKit
def xall (ops:Array Oper) (PVL PNL PSL BL:List Nat) (vs:List Nat) (k:Nat):Bool :=
 match ops[PNL.getD k 0]?,ops[PSL.getD k 0]? with
 | some o,some p=>o.dst==some (BL.getD k 0)&&o.guard.isNone&&p.dst==none&&p.guard.isNone&&decide (vs.getD k 0<PVL.length)&&vhas p (PNL.getD k 0)&&vhas p (PVL.getD (vs.getD k 0) 0)
 | _,_=>false
def xchk (ops:Array Oper) (PVL PNL PSL SL BL:List Nat) (D:List (List Nat)) (vs:List Nat):Bool :=
 ((List.range ops.size).all fun i=>match ops[i]? with|some o=>o.after.all (fun e => !(Region.binds .any e)||decide (e.on<i))&&(PVL.contains i||PNL.contains i||PSL.contains i)|none=>false)&&(List.range PVL.length).all (qval ops PVL SL D)&&(List.range PNL.length).all (xall ops PVL PNL PSL BL vs)&&decide (PVL++(PNL++PSL)).Nodup&&decide (SL++BL).Nodup&&decide (SL.length=PVL.length∧BL.length=PNL.length∧PSL.length=PNL.length)
theorem x_region {P:Program} {ops:Array Oper} {Q:Exit→Act→World→Prop} {id:Nat} (hm:P.follows .mixedOrders=true) (PVL PNL PSL SL BL:List Nat) (D:List (List Nat)) (vs:List Nat) (T:TypeId) (zs:Array Value)
  (W0:World) (a0:Act) (L:List (World→Value→Prop)) (hchk:xchk ops PVL PNL PSL SL BL D vs=true)
  (hV1:StaysAll L) (hV2:ZRowsAll T zs L) (hsl:∀ s ∈ SL++BL,s<a0.tmps.size)
  (hVs:∀ k,k<PNL.length→∀ w u,vL L (vs.getD k 0) w u→∃ cs:Array Value,u=.agg cs∧cs.size=zs.size∧cs.all (·.oneCell')=true)
  (hA:∀ j,j<PVL.length→∀ o,ops[PVL.getD j 0]?=some o→∀ (a:Act) (w:World),Bw W0 w→(∀ s:Nat,(SL++BL).contains s=false→a.tmps[s]?=a0.tmps[s]?) →
   (∀ j' ∈ dL D j,∃ u,a.tmps[SL.getD j' 0]?=some u∧vL L j' w u) →
   (o.guard=none∧o.wp P a w (fun a' w'=>∃ u,a'=a.put o.dst u∧vL L j w' u∧Bw w w') Q)∨wpOp P ops Q (PVL.getD j 0) (fun a' w'=>∃ u,a'=a.put o.dst u∧vL L j w' u∧Bw w w') a w)
  (hal:∀ k,k<PNL.length→∃ o,ops[PNL.getD k 0]?=some o∧o.op=.alloc T)
  (hz:∀ w,(zeroValue T).run P w=.ok (.agg zs) w) (hi:(P.info? T).map (·.size)=some zs.size)
  (hst:∀ k,k<PNL.length→∃ o,ops[PSL.getD k 0]?=some o∧o.op=.store T (.tmp (BL.getD k 0)) (.tmp (SL.getD (vs.getD k 0) 0)))
  (hQ:∀ (u:Nat→Value) (g:Nat→Nat) (w:World),Bw W0 w→(∀ j,j<PVL.length→vL L j w (u j)) →
   (∀ k,k<PNL.length→W0.heap.size≤g k∧∃ cs,u (vs.getD k 0)=.agg cs∧w.heap[g k]?=some (.cells cs T (0,0)))→(∀ k k',k<PNL.length→k'<PNL.length→k≠k'→g k≠g k') →
   Q .normal (putL a0 ((List.range PVL.length).map (fun j=>(SL.getD j 0,u j))++(List.range PNL.length).map (fun k=>(BL.getD k 0,.pointer (some ⟨g k,0,none⟩))))) w) :
  (Code.region id ops true).wp P Q a0 W0:=by
 unfold xchk at hchk
 simp only[Bool.and_eq_true,decide_eq_true_eq] at hchk
 obtain⟨⟨⟨⟨⟨h1,h2⟩,h3⟩,h4⟩,h5⟩,h6,h7,h8⟩:=hchk
 obtain⟨n1,n23,n4⟩:=List.nodup_append.1 h4
 obtain⟨n2,n3,n5⟩:=List.nodup_append.1 n23
 obtain⟨s1,s2,s3⟩:=List.nodup_append.1 h5
 have row:∀ {i o},ops[i]?=some o→(∀ e ∈ o.after,Region.binds .any e=true→e.on<i)∧(i ∈ PVL∨i ∈ PNL∨i ∈ PSL):=fun {i o} ho=>by
  have:=List.all_eq_true.1 h1 i (List.mem_range.2 (Array.getElem?_eq_some_iff.1 ho).1)
  simp only[ho] at this
  rw[Bool.and_eq_true,Bool.or_eq_true,Bool.or_eq_true] at this
  refine⟨fun e he hb=>?_,?_⟩
  ·have h9:=Array.all_eq_true_iff_forall_mem.1 this.1 e he
   rw[hb] at h9
   exact of_decide_eq_true (by simpa using h9)
  ·rcases this.2 with (h|h)|h
   ·exact .inl (by simpa using h)
   ·exact .inr (.inl (by simpa using h))
   ·exact .inr (.inr (by simpa using h))
 have val:∀ j,j<PVL.length→∃ o,ops[PVL.getD j 0]?=some o∧o.dst=some (SL.getD j 0)∧∀ j' ∈ dL D j,j'<PVL.length∧∃ e ∈ o.after,e.on=PVL.getD j' 0∧Region.binds .any e=true:=fun j hj=>by
  have:=List.all_eq_true.1 h2 j (List.mem_range.2 hj)
  unfold qval at this
  cases ho:ops[PVL.getD j 0]? with
  | none=>rw[ho] at this;cases this
  | some o =>
   rw[ho] at this
   simp only[Bool.and_eq_true] at this
   refine⟨o,rfl,by simpa using this.1,fun j' hj'=>?_⟩
   have:=List.all_eq_true.1 this.2 j' hj'
   rw[Bool.and_eq_true] at this
   exact⟨of_decide_eq_true this.1,vhas_ex this.2⟩
 have sto:∀ k,k<PNL.length→∃ o p,ops[PNL.getD k 0]?=some o∧ops[PSL.getD k 0]?=some p∧o.dst=some (BL.getD k 0)∧o.guard=none∧p.dst=none∧p.guard=none∧vs.getD k 0<PVL.length∧(∃ e ∈ p.after,e.on=PNL.getD k 0∧Region.binds .any e=true)∧∃ e ∈ p.after,e.on=PVL.getD (vs.getD k 0) 0∧Region.binds .any e=true:=fun k hk=>by
  have:=List.all_eq_true.1 h3 k (List.mem_range.2 hk)
  unfold xall at this
  cases ho:ops[PNL.getD k 0]? with
  | none=>rw[ho] at this;cases this
  | some o =>
   cases hp:ops[PSL.getD k 0]? with
   | none=>rw[ho,hp] at this;cases this
   | some p =>
    rw[ho,hp] at this
    simp only[Bool.and_eq_true] at this
    obtain⟨⟨⟨⟨⟨⟨x1,x2⟩,x3⟩,x4⟩,x5⟩,x6⟩,x7⟩:=this
    exact⟨o,p,rfl,rfl,by simpa using x1,Option.isNone_iff_eq_none.1 x2,by simpa using x3,Option.isNone_iff_eq_none.1 x4,of_decide_eq_true x5,vhas_ex x6,vhas_ex x7⟩
 have hoth:∀ {s:Nat},(SL++BL).contains s=false→(∀ j,j<PVL.length→s≠SL.getD j 0)∧∀ k,k<PNL.length→s≠BL.getD k 0:=fun {s} h=>by
  have hn:s ∉ SL++BL:=fun hh=>by
   have:(SL++BL).contains s=true:=by simpa using hh
   rw[h] at this;cases this
  refine⟨fun j hj e=>hn ?_,fun k hk e=>hn ?_⟩
  ·rw[e];exact List.mem_append_left _ (getD_mem (by omega))
  ·rw[e];exact List.mem_append_right _ (getD_mem (by omega))
 refine parx_region hm (fun j=>PVL.getD j 0) (fun k=>PNL.getD k 0) (fun k=>PSL.getD k 0) PVL.length PNL.length (fun j=>SL.getD j 0) (fun k=>BL.getD k 0) (fun k=>vs.getD k 0) (dL D) T zs W0 a0 (vL L) ?_ ?_ ?_ ?_ (fun j j' hj hj' e=>getD_inj n1 hj hj' e) (fun k k' hk hk' e=>getD_inj n2 hk hk' e) (fun k k' hk hk' e=>getD_inj n3 (by omega) (by omega) e) ?_ ?_ ?_ (fun i o ho=>(row ho).1) (fun j w w' u hb h=>vL_stays hV1 j w w' u hb h) (fun j w u g cs' y1 h=>vL_zrows hV2 j w u g cs' y1 h) hVs ?_ ?_ ?_ hz hi ?_ (fun j hj=>hsl _ (List.mem_append_left _ (getD_mem (by omega)))) (fun k hk=>hsl _ (List.mem_append_right _ (getD_mem (by omega)))) (fun j j' hj hj' e=>getD_inj s1 (by omega) (by omega) e) (fun j j' hj hj' e=>getD_inj s2 (by omega) (by omega) e) ?_ ?_
 ·intro i hi'
  have ho:ops[i]?=some ops[i]:=Array.getElem?_eq_getElem hi'
  rcases(row ho).2 with h|h|h
  ·exact .inl (mem_getD h)
  ·exact .inr (.inl (mem_getD h))
  ·obtain⟨k,x1,x2⟩:=mem_getD h
   exact .inr (.inr ⟨k,by omega,x2⟩)
 ·intro j hj
  obtain⟨o,ho,-⟩:=val j hj
  exact(Array.getElem?_eq_some_iff.1 ho).1
 ·intro k hk
  obtain⟨o,p,ho,hp,-⟩:=sto k hk
  exact(Array.getElem?_eq_some_iff.1 ho).1
 ·intro k hk
  obtain⟨o,p,ho,hp,-⟩:=sto k hk
  exact(Array.getElem?_eq_some_iff.1 hp).1
 ·intro j k hj hk
  exact n4 _ (getD_mem hj) _ (List.mem_append_left _ (getD_mem hk))
 ·intro j k hj hk
  exact n4 _ (getD_mem hj) _ (List.mem_append_right _ (getD_mem (by omega)))
 ·intro k k' hk hk'
  exact n5 _ (getD_mem hk) _ (getD_mem (by omega))
 ·intro j hj j' hj'
  obtain⟨o,ho,-,hd⟩:=val j hj
  obtain⟨x1,x2⟩:=hd j' hj'
  refine⟨x1,fun o' ho'=>?_⟩
  obtain rfl:o=o':=Option.some.inj (ho.symm.trans ho')
  exact x2
 ·intro j hj a w hk ho1 hd
  obtain⟨o,ho,hds,-⟩:=val j hj
  have h7:=hA j hj o ho a w hk (fun s hs=>ho1 s (hoth hs).1 (hoth hs).2) hd
  rw[hds] at h7
  rcases h7 with ⟨hg,h7⟩|h7
  ·exact step_wanted ho hg h7
  ·exact h7
 ·intro k hk
  obtain⟨o,p,ho,hp,x1,x2,-⟩:=sto k hk
  obtain⟨o',ho',hop⟩:=hal k hk
  obtain rfl:o=o':=Option.some.inj (ho.symm.trans ho')
  exact⟨o,ho,x2,hop,x1⟩
 ·intro k hk
  obtain⟨o,p,ho,hp,x1,x2,x3,x4,x5,x6,x7⟩:=sto k hk
  obtain⟨p',hp',hop⟩:=hst k hk
  obtain rfl:p=p':=Option.some.inj (hp.symm.trans hp')
  exact⟨x5,p,hp,x4,hop,x3,x6,x7⟩
 ·intro j k hj hk
  exact s3 _ (getD_mem (by omega)) _ (getD_mem (by omega))
 ·intro u g a w hb hu hg hap hs hd ho1
  have q1:((List.range PVL.length).map (fun j=>((SL.getD j 0,u j):Tmp×Value))++(List.range PNL.length).map (fun k=>((BL.getD k 0,Value.pointer (some ⟨g k,0,none⟩)):Tmp×Value))).map (fun p:Tmp×Value=>p.1)=(List.range PVL.length).map (fun j=>SL.getD j 0)++(List.range PNL.length).map (fun k=>BL.getD k 0):=by simp[Function.comp_def]
  have ha:=act_putL (a:=a) (a0:=a0) (l:=(List.range PVL.length).map (fun j=>((SL.getD j 0,u j):Tmp×Value))++(List.range PNL.length).map (fun k=>((BL.getD k 0,Value.pointer (some ⟨g k,0,none⟩)):Tmp×Value))) (by
    rw[q1,List.nodup_append]
    refine⟨?_,?_,?_⟩
    ·refine List.pairwise_map.2 ((List.nodup_range (n:=PVL.length)).imp_of_mem ?_)
     intro x y hx hy hne he
     have:=List.mem_range.1 hx
     have:=List.mem_range.1 hy
     exact hne (getD_inj s1 (by omega) (by omega) he)
    ·refine List.pairwise_map.2 ((List.nodup_range (n:=PNL.length)).imp_of_mem ?_)
     intro x y hx hy hne he
     have:=List.mem_range.1 hx
     have:=List.mem_range.1 hy
     exact hne (getD_inj s2 (by omega) (by omega) he)
    ·intro x hx y hy
     obtain⟨i,hi1,rfl⟩:=List.mem_map.1 hx
     obtain⟨k,hk1,rfl⟩:=List.mem_map.1 hy
     have:=List.mem_range.1 hi1
     have:=List.mem_range.1 hk1
     exact s3 _ (getD_mem (by omega)) _ (getD_mem (by omega))) hs hd (by
    intro p hp
    rcases List.mem_append.1 hp with hp|hp
    ·obtain⟨i,hi1,rfl⟩:=List.mem_map.1 hp
     exact(hu i (List.mem_range.1 hi1)).1
    ·obtain⟨k,hk1,rfl⟩:=List.mem_map.1 hp
     exact(hg k (List.mem_range.1 hk1)).1) (fun s hsn=>ho1 s (fun i hi1 he=>hsn (List.mem_map.2 ⟨_,List.mem_append_left _ (List.mem_map.2 ⟨i,List.mem_range.2 hi1,rfl⟩),he.symm⟩)) (fun k hk1 he=>hsn (List.mem_map.2 ⟨_,List.mem_append_right _ (List.mem_map.2 ⟨k,List.mem_range.2 hk1,rfl⟩),he.symm⟩)))
  rw[ha]
  exact hQ u g w hb (fun j hj=>(hu j hj).2) (fun k hk=>(hg k hk).2) hap
end Go.Proofs.YtcdkkpjilgmncaaGreatDoor
namespace Go.Proofs.YtcdkkpjilgmncaaGreatDoor
open Go.RowKit Go.Fl64
attribute [local go_sem] run_store_flt
theorem owp_ext {P:Program} {Q:Exit→Act→World→Prop} {o:Oper} {K:Act→World→Prop} {a:Act} {w:World} {s:Tmp} {i:Nat} {vs:Array Value} {v:Value} (hop:o.op=.extract (.tmp s) i) (hs:a.tmps[s]?=some (.tuple vs)) (hv:vs[i]?=some v) (h:K (a.put o.dst v) w):o.wp P a w K Q :=
 owp_run1 (w':=w) (by simp[execOp,hop,eval_get hs,hv,Instr.extract]) h
def PB (W:World) (g:Nat) (s1:Bool) (ao1:Option Addr) (n1 cp1:Nat) (e1:Int) (t:Bool×Nat×Int):Prop:=W.heap[g]?=some (.cells #[.bool s1,.slice ao1 n1 cp1,.int .i64 e1] 28 (0,0))∧PN W (.agg #[.bool s1,.slice ao1 n1 cp1,.int .i64 e1]) t
theorem PB.later {W V:World} {g:Nat} {s1:Bool} {ao1:Option Addr} {n1 cp1:Nat} {e1:Int} {t:Bool×Nat×Int} (h:PB W g s1 ao1 n1 cp1 e1 t) (hb:Bw W V):PB V g s1 ao1 n1 cp1 e1 t:=⟨box_later h.1 hb (lt_of_box h.1),h.2.later hb⟩
def isPI (s:Bool) (n z:Nat) (e:Int):World→Value→Prop:=fun w u=>PI s n z e w u
theorem isPI_stays (s:Bool) (n z:Nat) (e:Int):Stays (isPI s n z e):=fun w w' u hb h=>PI.lasts s n z e w w' u hb h
theorem isPI_rows (s:Bool) (n z:Nat) (e:Int):∀ w u g cs',w.heap[g]?=some (.cells #[.float .f64 0,.float .f64 0] 24 (0,0))→isPI s n z e w u→isPI s n z e (w.setRow g cs') u:=fun w u g cs' hg ⟨v,b,h1,h2⟩=>⟨v,b,h1,h2.row hg (by decide) cs'⟩
theorem zeroI8 (w:World):(zeroValue 24).run Tryz.prog w=.ok (.agg #[.float .f64 0,.float .f64 0]) w:=Tryz.zeroValue24 w
theorem two1F8 (x y:Nat):(#[.float .f64 x,.float .f64 y]:Array Value).all (·.oneCell')=true:=by simp only[List.all_toArray,List.all_cons,List.all_nil,show ∀ z,(Value.float .f64 z).oneCell'=true from fun _=>rfl,Bool.and_self]
theorem sfrac_1 (a b:Nat) (s1:Bool) (ao1:Option Addr) (n1 cp1:Nat) (e1:Int) (s2:Bool) (ao2:Option Addr) (n2 cp2:Nat) (e2:Int) (x1 x2 X Y:Nat) (E k:Int) (t1 t2:Bool×Nat×Int) (w:World)
  (kS:Hid (∀ W,Bw w W→Calls Tryz.prog 4 #[.agg #[.float .f64 a,.float .f64 b]] W fun r w'=>Out2N W t1 t2 k r w'))
  (kD:Hid (∀ W,Bw w W→Calls Tryz.prog 5 #[.agg #[.float .f64 a,.float .f64 b]] W fun r w'=>Out3D W t1 t2 k r w'))
  (kG1:Hid (∀ W,Bw w W→Calls Tryz.prog 7 #[.agg #[.bool s1,.slice ao1 n1 cp1,.int .i64 e1]] W fun r w'=>∃ A,r=.returned A∧PI s1 n1 x1 e1 w' A∧Bw W w'))
  (kG2:Hid (∀ W,Bw w W→Calls Tryz.prog 7 #[.agg #[.bool s2,.slice ao2 n2 cp2,.int .i64 e2]] W fun r w'=>∃ A,r=.returned A∧PI s2 n2 x2 e2 w' A∧Bw W w'))
  (kF:Hid (∀ W A B,Bw w W→PI s1 n1 x1 e1 W A→PI s2 n2 x2 e2 W B→Calls Tryz.prog 6 #[A,B] W fun r w'=>OutI W X Y E r w'))
  (kH:Hid (∀ W,Bw w W→Calls Tryz.prog 8 #[.agg #[.bool s1,.slice ao1 n1 cp1,.int .i64 e1],.agg #[.bool s2,.slice ao2 n2 cp2,.int .i64 e2]] W fun r w'=>OutI W X Y E r w'))
  (kL:Hid (∀ W,Calls Tryz.prog 10 #[.agg #[.float .f64 X,.float .f64 Y],.agg #[.float .f64 X,.float .f64 Y]] W fun r w'=>r=.returned (.bool true)∧Bw W w'))
  (kW:Hid (∀ W,Bw w W→Calls Tryz.prog 11 #[] W fun r w'=>r=.returned (.bool true)∧Bw W w')) :
  Calls Tryz.prog 3 #[.agg #[.float .f64 a,.float .f64 b],.agg #[.bool s1,.slice ao1 n1 cp1,.int .i64 e1],.agg #[.bool s2,.slice ao2 n2 cp2,.int .i64 e2]] w fun r w'=>r=.returned (.bool true)∧Bw w w':=by
 obtain⟨W,hW⟩:∃ W,W=((w.alloc (.cells #[.float .f64 a,.float .f64 b] 24)).alloc (.cells #[.bool s1,.slice ao1 n1 cp1,.int .i64 e1] 27)).alloc (.cells #[.bool s2,.slice ao2 n2 cp2,.int .i64 e2] 27):=⟨_,rfl⟩
 obtain⟨m1,m2,m3,hBW⟩:=three_new _ _ _ hW
 have H0:Hid (IvB W (w.heap.size) a b∧W.heap[w.heap.size+1]?=some (.cells #[.bool s1,.slice ao1 n1 cp1,.int .i64 e1] 27 (0,0))∧W.heap[w.heap.size+1+1]?=some (.cells #[.bool s2,.slice ao2 n2 cp2,.int .i64 e2] 27 (0,0))∧Bw w W):=⟨m1,m2,m3,hBW⟩
 obtain⟨c0,c1,-,-⟩:=H0.out.1.facts
 have kk:=kS.out W hBW
 clear m1 m2 m3 hBW kS
 go_enter Tryz.func3,Tryz.ntmps3
 go_upto_region 1 with fail
 rw[←hW]
 clear hW
 go_wp2_with fail
 refine kk.mono ?_
 rintro r w1 ⟨s3,ao3,n3,cp3,e3,s4,ao4,n4,cp4,e4,rfl,hA,hB,hb1⟩
 clear kk c0 c1
 obtain⟨W1,hW1⟩:∃ W1,W1=(w1.alloc (.cells #[.bool s3,.slice ao3 n3 cp3,.int .i64 e3] 28)).alloc (.cells #[.bool s4,.slice ao4 n4 cp4,.int .i64 e4] 28):=⟨_,rfl⟩
 obtain⟨z1,z2,z3,z4⟩:=two_new _ _ hW1
 have hb01:Bw W W1:=hb1.trans (z4.mono hb1.size)
 obtain⟨x1',x2',x3',xB⟩:=H0.out
 go_upto_region 2 with fail
 rw[←hW1]
 clear hW1
 have hA':=hA.later z4
 have hB':=hB.later z4
 clear z3 z4 hA hB
 generalize w1.heap.size=gqA at *
 have H1:Hid (IvB W1 (w.heap.size) a b∧W1.heap[w.heap.size+1]?=some (.cells #[.bool s1,.slice ao1 n1 cp1,.int .i64 e1] 27 (0,0))∧W1.heap[w.heap.size+1+1]?=some (.cells #[.bool s2,.slice ao2 n2 cp2,.int .i64 e2] 27 (0,0))∧Bw w W1∧PB W1 gqA s3 ao3 n3 cp3 e3 t1∧PB W1 (gqA+1) s4 ao4 n4 cp4 e4 t2):=⟨x1'.box hb01,box_later x2' hb01 (lt_of_box x2'),box_later x3' hb01 (lt_of_box x3'),xB.trans (hb01.mono xB.size),⟨z1,hA'⟩,⟨z2,hB'⟩⟩
 clear x1' x2' x3' xB hb1 hb01 z1 z2 hA' hB' H0
 obtain⟨c0,c1,-,-⟩:=H1.out.1.facts
 have kk:=kD.out W1 H1.out.2.2.2.1
 clear kD
 go_wp2_with fail
 refine kk.mono ?_
 rintro r w2 ⟨s5,ao5,n5,cp5,e5,s6,ao6,n6,cp6,e6,rfl,hA,hB,hb2⟩
 clear kk c0 c1
 obtain⟨W2,hW2⟩:∃ W2,W2=(w2.alloc (.cells #[.bool s5,.slice ao5 n5 cp5,.int .i64 e5] 27)).alloc (.cells #[.bool s6,.slice ao6 n6 cp6,.int .i64 e6] 27):=⟨_,rfl⟩
 obtain⟨z1,z2,z3,z4⟩:=two_new _ _ hW2
 have hb12:Bw W1 W2:=hb2.trans (z4.mono hb2.size)
 obtain⟨x1',x2',x3',xB,xa,xb⟩:=H1.out
 go_upto_region 3 with fail
 rw[←hW2]
 clear hW2
 have hA':=hA.later z4
 have hB':=hB.later z4
 clear z3 z4 hA hB
 generalize w2.heap.size=gqC at *
 have H2:Hid (W2.heap[w.heap.size+1]?=some (.cells #[.bool s1,.slice ao1 n1 cp1,.int .i64 e1] 27 (0,0))∧W2.heap[w.heap.size+1+1]?=some (.cells #[.bool s2,.slice ao2 n2 cp2,.int .i64 e2] 27 (0,0))∧Bw w W2∧PB W2 gqA s3 ao3 n3 cp3 e3 t1∧PB W2 (gqA+1) s4 ao4 n4 cp4 e4 t2∧NB W2 gqC s5 ao5 n5 cp5 e5 t1∧NB W2 (gqC+1) s6 ao6 n6 cp6 e6 t2):=⟨box_later x2' hb12 (lt_of_box x2'),box_later x3' hb12 (lt_of_box x3'),xB.trans (hb12.mono xB.size),xa.later hb12,xb.later hb12,⟨z1,hA'⟩,⟨z2,hB'⟩⟩
 clear x1' x2' x3' xB xa xb hb2 hb12 z1 z2 hA' hB' H1
 obtain⟨x2',x3',xB,xa,xb,xc,xd⟩:=H2.out
 refine x_region follows_mixed [0,1,2,3,4,5,6,7,10] [8] [9] [30,31,32,33,34,29,35,36,14] [13] [[],[0],[],[2],[1,3],[4],[5],[5],[7]] [6] 24 #[.float .f64 0,.float .f64 0] W2 _ [isV (.agg #[.bool s1,.slice ao1 n1 cp1,.int .i64 e1]),isPI s1 n1 x1 e1,isV (.agg #[.bool s2,.slice ao2 n2 cp2,.int .i64 e2]),isPI s2 n2 x2 e2,isV (.tuple #[.agg #[.float .f64 X,.float .f64 Y],.int .i64 E]),isV (.tuple #[.agg #[.float .f64 X,.float .f64 Y],.int .i64 E]),isV (.agg #[.float .f64 X,.float .f64 Y]),isV (.int .i64 E),isV (.int .i64 E)] (by kernel_rfl) ⟨isV_stays _,isPI_stays _ _ _ _,isV_stays _,isPI_stays _ _ _ _,isV_stays _,isV_stays _,isV_stays _,isV_stays _,isV_stays _,trivial⟩ ⟨fun _ _ _ _ _ h=>h,isPI_rows _ _ _ _,fun _ _ _ _ _ h=>h,isPI_rows _ _ _ _,fun _ _ _ _ _ h=>h,fun _ _ _ _ _ h=>h,fun _ _ _ _ _ h=>h,fun _ _ _ _ _ h=>h,fun _ _ _ _ _ h=>h,trivial⟩ (by show ∀ s ∈ [30,31,32,33,34,29,35,36,14] ++ [13],s<69;decide) ?_ ?_ ?_ zeroI8 iv_info ?_ ?_
 ·intro k' hk U u h
  obtain rfl:k'=0:=Nat.lt_one_iff.1 hk
  obtain rfl:u=_:=h
  exact⟨_,rfl,rfl,two1F8 _ _⟩
 ·intro j hj o ho act U hb hoth hdep
  have hj':j<9:=hj
  have hbU:Bw w U:=xB.trans (hb.mono xB.size)
  have t4:act.tmps[(4:Nat)]?=some (Value.pointer (some ⟨w.heap.size+1,0,none⟩)):=(hoth 4 (by decide)).trans rfl
  have t5:act.tmps[(5:Nat)]?=some (Value.pointer (some ⟨w.heap.size+1+1,0,none⟩)):=(hoth 5 (by decide)).trans rfl
  have d4:=(cells3N (box_later x2' hb (lt_of_box x2'))).1
  have d5:=(cells3N (box_later x3' hb (lt_of_box x3'))).1
  rcases(by omega:j=0∨j=1∨j=2∨j=3∨j=4∨j=5∨j=6∨j=7∨j=8)with rfl|rfl|rfl|rfl|rfl|rfl|rfl|rfl|rfl
  ·obtain rfl:=Option.some.inj ho
   exact .inl ⟨rfl,owp_ldD rfl t4 d4.1 d4.2.1 d4.2.2 ⟨_,rfl,rfl,Below.refl _ _⟩⟩
  ·obtain rfl:=Option.some.inj ho
   have y0:act.tmps[(30:Nat)]?=_:=dV (hdep 0 (by simp[dL])) rfl
   refine .inl ⟨rfl,owp_call rfl (enters Tryz.func7 (by kernel_rfl) (by kernel_rfl)) (map1t y0) ?_⟩
   refine(kG1.out U hbU).mono ?_
   rintro r w' ⟨A,rfl,hA,hb'⟩
   exact⟨_,rfl,_,rfl,hA,hb'⟩
  ·obtain rfl:=Option.some.inj ho
   exact .inl ⟨rfl,owp_ldD rfl t5 d5.1 d5.2.1 d5.2.2 ⟨_,rfl,rfl,Below.refl _ _⟩⟩
  ·obtain rfl:=Option.some.inj ho
   have y0:act.tmps[(32:Nat)]?=_:=dV (hdep 2 (by simp[dL])) rfl
   refine .inl ⟨rfl,owp_call rfl (enters Tryz.func7 (by kernel_rfl) (by kernel_rfl)) (map1t y0) ?_⟩
   refine(kG2.out U hbU).mono ?_
   rintro r w' ⟨A,rfl,hA,hb'⟩
   exact⟨_,rfl,_,rfl,hA,hb'⟩
  ·obtain rfl:=Option.some.inj ho
   obtain⟨u1,y1,v1⟩:=hdep 1 (by simp[dL])
   obtain⟨u3,y3,v3⟩:=hdep 3 (by simp[dL])
   have y1':act.tmps[(31:Nat)]?=_:=y1
   have y3':act.tmps[(33:Nat)]?=_:=y3
   refine .inl ⟨rfl,owp_call rfl (enters Tryz.func6 (by kernel_rfl) (by kernel_rfl)) (map2 y1' y3') ?_⟩
   refine(kF.out U u1 u3 hbU v1 v3).mono ?_
   rintro r w' ⟨rfl,hb'⟩
   exact⟨_,rfl,_,rfl,rfl,hb'⟩
  ·obtain rfl:=Option.some.inj ho
   have y0:act.tmps[(34:Nat)]?=_:=dV (hdep 4 (by simp[dL])) rfl
   exact .inl ⟨rfl,owp_move rfl y0 ⟨_,rfl,rfl,Below.refl _ _⟩⟩
  ·obtain rfl:=Option.some.inj ho
   have y0:act.tmps[(29:Nat)]?=_:=dV (hdep 5 (by simp[dL])) rfl
   exact .inl ⟨rfl,owp_ext rfl y0 rfl ⟨_,rfl,rfl,Below.refl _ _⟩⟩
  ·obtain rfl:=Option.some.inj ho
   have y0:act.tmps[(29:Nat)]?=_:=dV (hdep 5 (by simp[dL])) rfl
   exact .inl ⟨rfl,owp_ext rfl y0 rfl ⟨_,rfl,rfl,Below.refl _ _⟩⟩
  ·obtain rfl:=Option.some.inj ho
   have y0:act.tmps[(36:Nat)]?=_:=dV (hdep 7 (by simp[dL])) rfl
   exact .inl ⟨rfl,owp_assign rfl y0 ⟨_,rfl,rfl,Below.refl _ _⟩⟩
 ·intro k' hk
  obtain rfl:k'=0:=Nat.lt_one_iff.1 hk
  exact⟨_,rfl,rfl⟩
 ·intro k' hk
  obtain rfl:k'=0:=Nat.lt_one_iff.1 hk
  exact⟨_,rfl,rfl⟩
 ·intro u g W3 hb3 hu hg hap
  obtain⟨g0,cs0,q0,z0⟩:=hg 0 (by decide)
  have u6:u 6=.agg #[.float .f64 X,.float .f64 Y]:=hu 6 (by decide)
  have u8:u 8=.int .i64 E:=hu 8 (by decide)
  have q0':u 6=.agg cs0:=q0
  rw[u6] at q0'
  obtain rfl:=Value.agg.inj q0'
  obtain⟨gqS,hgS⟩:∃ gqS,gqS=g 0:=⟨_,rfl⟩
  rw[←hgS] at z0 g0
  have H3:Hid (W3.heap[w.heap.size+1]?=some (.cells #[.bool s1,.slice ao1 n1 cp1,.int .i64 e1] 27 (0,0))∧W3.heap[w.heap.size+1+1]?=some (.cells #[.bool s2,.slice ao2 n2 cp2,.int .i64 e2] 27 (0,0))∧Bw w W3∧PB W3 gqA s3 ao3 n3 cp3 e3 t1∧PB W3 (gqA+1) s4 ao4 n4 cp4 e4 t2∧NB W3 gqC s5 ao5 n5 cp5 e5 t1∧NB W3 (gqC+1) s6 ao6 n6 cp6 e6 t2∧IvB W3 gqS X Y):=⟨box_later x2' hb3 (lt_of_box x2'),box_later x3' hb3 (lt_of_box x3'),xB.trans (hb3.mono xB.size),xa.later hb3,xb.later hb3,xc.later hb3,xd.later hb3,z0⟩
  clear hu hg hap hb3 x2' x3' xB xa xb xc xd H2 q0 q0' z0 g0 kG1 kG2 kF u6
  simp only[putL,show List.range 9 = [0,1,2,3,4,5,6,7,8] from rfl,show List.range 1 = [0] from rfl,List.length_cons,List.length_nil,List.getD_cons_zero,List.getD_cons_succ,List.map_cons,List.map_nil,List.cons_append,List.nil_append,List.foldl_cons,List.foldl_nil,Nat.reduceLT,Nat.reduceMod,Nat.reduceDiv,Nat.reduceMul,Nat.reduceAdd,Nat.reduceEqDiff,reduceIte,Nat.one_ne_zero,Act.put,List.setIfInBounds_toArray,List.set_cons_zero,List.set_cons_succ]
  rw[←hgS,u8]
  clear hgS u8
  obtain⟨k0,k1,k2⟩:=(cells3N H3.out.1).1
  obtain⟨l0,l1,l2⟩:=(cells3N H3.out.2.1).1
  have kk:=kH.out W3 H3.out.2.2.1
  clear kH
  go_wp2_with fail
  refine kk.mono ?_
  rintro r w4 ⟨rfl,hb4⟩
  clear kk k0 k1 k2 l0 l1 l2
  obtain⟨W4,hW4⟩:∃ W4,W4=w4.alloc (.cells #[.float .f64 X,.float .f64 Y] 24):=⟨_,rfl⟩
  have hbV:Bw w4 W4:=by rw[hW4];exact(Below.refl _ _).alloc (Nat.le_refl _) _
  have nT6:IvB W4 w4.heap.size X Y:=by rw[hW4];exact IvB.new _ _ _
  have hb34:Bw W3 W4:=hb4.trans (hbV.mono hb4.size)
  obtain⟨x2',x3',xB,xa,xb,xc,xd,xs⟩:=H3.out
  go_upto_region 5 with fail
  rw[←hW4]
  clear hW4 hbV
  generalize w4.heap.size=gqT at *
  have H4:Hid (Bw w W4∧PB W4 gqA s3 ao3 n3 cp3 e3 t1∧PB W4 (gqA+1) s4 ao4 n4 cp4 e4 t2∧NB W4 gqC s5 ao5 n5 cp5 e5 t1∧NB W4 (gqC+1) s6 ao6 n6 cp6 e6 t2∧IvB W4 gqS X Y∧IvB W4 gqT X Y):=⟨xB.trans (hb34.mono xB.size),xa.later hb34,xb.later hb34,xc.later hb34,xd.later hb34,xs.box hb34,nT6⟩
  clear x2' x3' xB xa xb xc xd xs hb4 hb34 nT6 H3
  obtain⟨xB,xa,xb,xc,xd,xs,xt⟩:=H4.out
  obtain⟨k0,k1,k2⟩:=(cells3N xa.1).1
  obtain⟨l0,l1,l2⟩:=(cells3N xc.1).1
  have kk:=equal8 xa.2 xc.2
  clear xB xa xb xc xd xs xt
  go_wp2_with fail
  refine kk.mono ?_
  rintro r w5 ⟨rfl,hb5⟩
  clear kk k0 k1 k2 l0 l1 l2
  obtain⟨xB,xa,xb,xc,xd,xs,xt⟩:=H4.out
  have H5:Hid (Bw w w5∧PB w5 (gqA+1) s4 ao4 n4 cp4 e4 t2∧NB w5 (gqC+1) s6 ao6 n6 cp6 e6 t2∧IvB w5 gqS X Y∧IvB w5 gqT X Y):=⟨xB.trans (hb5.mono xB.size),xb.later hb5,xd.later hb5,xs.box hb5,xt.box hb5⟩
  clear xB xa xb xc xd xs xt hb5 H4
  obtain⟨xB,xb,xd,xs,xt⟩:=H5.out
  obtain⟨k0,k1,k2⟩:=(cells3N xb.1).1
  obtain⟨l0,l1,l2⟩:=(cells3N xd.1).1
  have kk:=equal8 xb.2 xd.2
  clear xB xb xd xs xt
  go_wp2_with fail
  refine kk.mono ?_
  rintro r w6 ⟨rfl,hb6⟩
  clear kk k0 k1 k2 l0 l1 l2
  obtain⟨xB,xb,xd,xs,xt⟩:=H5.out
  have H6:Hid (Bw w w6):=xB.trans (hb6.mono xB.size)
  obtain⟨c0,c1,-,-⟩:=(xs.box hb6).facts
  obtain⟨d0,d1,-,-⟩:=(xt.box hb6).facts
  have kk:=kL.out w6
  clear xB xb xd xs xt hb6 H5 kL
  go_wp2_with fail
  refine kk.mono ?_
  rintro r w7 ⟨rfl,hb7⟩
  clear kk c0 c1 d0 d1
  have H7:Hid (Bw w w7):=H6.out.trans (hb7.mono H6.out.size)
  have kk:=kW.out w7 H7.out
  clear hb7 H6 kW
  go_wp2_with fail
  refine kk.mono ?_
  rintro r w8 ⟨rfl,hb8⟩
  have H8:Hid (Bw w w8):=H7.out.trans (hb8.mono H7.out.size)
  clear kk hb8 H7
  go_wp2_with fail
  go_ret
  exact⟨rfl,H8.out⟩
theorem spanFractions_ok (a b:Nat) (ng:Nat→Bool) (ao:Nat→Option Addr) (ln cp z:Nat→Nat) (e:Nat→Int) (w:World) (ha:a<18446744073709551616) (hb:b<18446744073709551616) (hA:∀ i,i<2→Arg w (ao i) (ln i) (cp i) (z i)) (hzl:∀ i,i<2→dlen (z i)≤ln i) (hT:Tab32 w) (hJ:Ie.Tab w) :
  Calls Tryz.prog 3 #[.agg #[.float .f64 a,.float .f64 b],.agg #[.bool (ng 0),.slice (ao 0) (ln 0) (cp 0),.int .i64 (e 0)],.agg #[.bool (ng 1),.slice (ao 1) (ln 1) (cp 1),.int .i64 (e 1)]] w fun r w'=>r=.returned (.bool true)∧Bw w w':=by
 have a0:=hA 0 (by omega)
 have a1:=hA 1 (by omega)
 obtain⟨X,Y,E,hX,hY,kF,kH⟩:=join_Fr (na:=ng 0) (nb:=ng 1) (ea:=e 0) (eb:=e 1) hT a0 a1 (hzl 0 (by omega)) (hzl 1 (by omega))
 obtain⟨t1,t2,k,kS,kD⟩:∃ t1 t2 k,(∀ W,Bw w W→Calls Tryz.prog 4 #[.agg #[.float .f64 a,.float .f64 b]] W fun r w'=>Out2N W t1 t2 k r w')∧(∀ W,Bw w W→Calls Tryz.prog 5 #[.agg #[.float .f64 a,.float .f64 b]] W fun r w'=>Out3D W t1 t2 k r w'):=by
  cases hv:vI a b
  ·exact⟨nilN,nilN,1,fun W _=>psimple_no ha hb hv W,fun W _=>dsimple_no ha hb hv W⟩
  ·obtain⟨P,Q,hS,kS⟩:=psimple_sm ha hb hv
   exact⟨_,_,0,fun W hW=>kS W (hT.later hW) (Tab.later hJ hW),fun W _=>dsimple_ok ha hb hv hS W⟩
 have gv:∀ i,i<2→∀ W,Bw w W→Calls Tryz.prog 7 #[.agg #[.bool (ng i),.slice (ao i) (ln i) (cp i),.int .i64 (e i)]] W fun r w'=>∃ A,r=.returned A∧PI (ng i) (ln i) (z i) (e i) w' A∧Bw W w':=fun i hi W hW=>by
  refine(give8_ok (ng:=ng i) (e:=e i) ((hA i hi).later hW)).mono ?_
  rintro r w' ⟨v,rfl,hD,hB⟩
  exact⟨_,rfl,⟨v,_,rfl,hD⟩,hB⟩
 exact sfrac_1 a b (ng 0) (ao 0) (ln 0) (cp 0) (e 0) (ng 1) (ao 1) (ln 1) (cp 1) (e 1) (z 0) (z 1) X Y E k t1 t2 w kS kD (gv 0 (by omega)) (gv 1 (by omega)) kF kH (fun W=>isame X Y hX hY W) (fun W hW=>works8 W (hT.later hW) (Tab.later hJ hW))
end Go.Proofs.YtcdkkpjilgmncaaGreatDoor
