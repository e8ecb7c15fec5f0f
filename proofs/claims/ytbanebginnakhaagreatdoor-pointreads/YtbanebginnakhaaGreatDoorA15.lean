/- Own work: contracts of the program's functions, part 15: PX2 FR8 FRA SNF SNG SNI SNJ SNL SNQ FR9 FRB SNR SNN SNS SNK SNT SNU SNV FRC SNW SNX SNY SNZ SO1 FRD FRE FRF FRG DC5 DC6 DC7 DC8 DC9 DCA DCB DCC DD0 DCD DCE DCF DCG DCH DCI DCJ. -/
import Derived.Test.YtbanebginnakhaaGreatDoorA14
import Derived.Test.YtbanebginnakhaaGreatDoorA12
import Derived.Laws.StructEq
import Derived.Test.YtbanebginnakhaaGreatDoorA7
import Derived.Test.YtbanebginnakhaaGreatDoorA8
import Derived.Test.YtbanebginnakhaaGreatDoorA11
import Derived.Test.YtbanebginnakhaaGreatDoorA6
import Derived.Test.YtbanebginnakhaaGreatDoorA10
import Derived.Test.YtbanebginnakhaaGreatDoorA9
import Derived.Test.YtbanebginnakhaaGreatDoorA13
import Derived.Test.YtbanebginnakhaaGreatDoorA4
import Derived.Test.YtbanebginnakhaaGreatDoorA5
import Derived.Laws.IdiomStrings
import Derived.BigQuiet
import Derived.Lib.Bytealg

set_option maxHeartbeats 16000000
set_option maxRecDepth 200000
set_option linter.unusedVariables false
set_option linter.unusedSimpArgs false
namespace Go.Proofs.YtbanebginnakhaaGreatDoor
open Go.RowKit
def xall (ops:Array Oper) (PVL PNL PSL BL:List Nat) (vs:List Nat) (k:Nat):Bool :=
 match ops[PNL.getD k 0]?,ops[PSL.getD k 0]? with
 | some o,some p=>o.dst==some (BL.getD k 0)&&o.guard.isNone&&p.dst==none&&p.guard.isNone&&decide (vs.getD k 0<PVL.length)&&vhas p (PNL.getD k 0)&&vhas p (PVL.getD (vs.getD k 0) 0)
 | _,_=>false
def xchk (ops:Array Oper) (PVL PNL PSL SL BL:List Nat) (D:List (List Nat)) (vs:List Nat):Bool :=
 ((List.range ops.size).all fun i=>match ops[i]? with|some o=>o.after.all (fun e => !(Region.binds .any e)||decide (e.on<i))&&(PVL.contains i||PNL.contains i||PSL.contains i)|none=>false)&&(List.range PVL.length).all (qval ops PVL SL D)&&(List.range PNL.length).all (xall ops PVL PNL PSL BL vs)&&decide (PVL++(PNL++PSL)).Nodup&&decide (SL++BL).Nodup&&decide (SL.length=PVL.length∧BL.length=PNL.length∧PSL.length=PNL.length)
theorem qM {P:Program} {ops:Array Oper} {Q:Exit→Act→World→Prop} {id:Nat} (hm:P.follows .mixedOrders=true) (PVL PNL PSL SL BL:List Nat) (D:List (List Nat)) (vs:List Nat) (T:TypeId) (zs:Array Value)
  (W0:World) (a0:Act) (L:List (World→Value→Prop)) (hchk:xchk ops PVL PNL PSL SL BL D vs=true)
  (hV1:qH5 L) (hV2:qI6 T zs L) (hsl:∀ s ∈ SL++BL,s<a0.tmps.size)
  (hVs:∀ k,k<PNL.length→∀ w u,vL L (vs.getD k 0) w u→∃ cs:Array Value,u=.agg cs∧cs.size=zs.size∧cs.all (·.oneCell')=true)
  (hA:∀ j,j<PVL.length→∀ o,ops[PVL.getD j 0]?=some o→∀ (a:Act) (w:World),Bw W0 w→(∀ s:Nat,(SL++BL).contains s=false→a.tmps[s]?=a0.tmps[s]?) →
   (∀ j' ∈ dL D j,∃ u,a.tmps[SL.getD j' 0]?=some u∧vL L j' w u) →
   (o.guard=none∧o.wp P a w (fun a' w'=>∃ u,a'=a.put o.dst u∧vL L j w' u∧Bw w w') Q)∨wpOp P ops Q (PVL.getD j 0) (fun a' w'=>∃ u,a'=a.put o.dst u∧vL L j w' u∧Bw w w') a w)
  (hal:∀ k,k<PNL.length→∃ o,ops[PNL.getD k 0]?=some o∧o.op=.alloc T)
  (hz:∀ w,(zeroValue T).run P w=.ok (.agg zs) w) (hi:(P.info? T).map (·.size)=some zs.size)
  (hst:∀ k,k<PNL.length→∃ o,ops[PSL.getD k 0]?=some o∧o.op=.store T (.tmp (BL.getD k 0)) (.tmp (SL.getD (vs.getD k 0) 0)))
  (hQ:∀ (u:Nat→Value) (g:Nat→Nat) (w:World),Bw W0 w→(∀ j,j<PVL.length→vL L j w (u j)) →
   (∀ k,k<PNL.length→W0.heap.size≤g k∧∃ cs,u (vs.getD k 0)=.agg cs∧w.heap[g k]?=some (.cells cs T (0,0)))→(∀ k k',k<PNL.length→k'<PNL.length→k≠k'→g k≠g k') →
   Q .normal (putL a0 ((List.range PVL.length).map (fun j=>(SL.getD j 0,u j))++(List.range PNL.length).map (fun k=>(BL.getD k 0,.pointer (some ⟨g k,0,none⟩))))) w) :
  (Code.region id ops true).wp P Q a0 W0:=by
 unfold xchk at hchk;simp only[xC,decide_eq_true_eq] at hchk;obtain⟨⟨⟨⟨⟨h1,h2⟩,h3⟩,h4⟩,h5⟩,h6,h7,h8⟩:=hchk;obtain⟨n1,n23,n4⟩:=List.nodup_append.1 h4;obtain⟨n2,n3,n5⟩:=List.nodup_append.1 n23;obtain⟨s1,s2,s3⟩:=List.nodup_append.1 h5;have row:∀ {i o},ops[i]?=some o→(∀ e ∈ o.after,Region.binds .any e=true→e.on<i)∧(i ∈ PVL∨i ∈ PNL∨i ∈ PSL):=fun {i o} ho=>by
  have:=List.all_eq_true.1 h1 i (List.mem_range.2 (Array.getElem?_eq_some_iff.1 ho).1)
  simp only[ho] at this;rw[xC,Bool.or_eq_true,Bool.or_eq_true] at this;refine⟨fun e he hb=>?_,?_⟩
  ·have h9:=Array.all_eq_true_iff_forall_mem.1 this.1 e he;rw[hb] at h9;exact of_decide_eq_true (by simpa using h9)
  ·rcases this.2 with (h|h)|h
   ·exact .inl (by simpa using h)
   ·exact .inr (.inl (by simpa using h))
   ·exact .inr (.inr (by simpa using h))
 have val:∀ j,j<PVL.length→∃ o,ops[PVL.getD j 0]?=some o∧o.dst=some (SL.getD j 0)∧∀ j' ∈ dL D j,j'<PVL.length∧∃ e ∈ o.after,e.on=PVL.getD j' 0∧Region.binds .any e=true:=fun j hj=>by
  have:=List.all_eq_true.1 h2 j (List.mem_range.2 hj)
  unfold qval at this;cases ho:ops[PVL.getD j 0]? with
  | none=>rw[ho] at this;cases this
  | some o =>
   rw[ho] at this;simp only[xC] at this;refine⟨o,rfl,by simpa using this.1,fun j' hj'=>?_⟩
   have:=List.all_eq_true.1 this.2 j' hj'
   rw[xC] at this;exact⟨of_decide_eq_true this.1,qN0 this.2⟩
 have sto:∀ k,k<PNL.length→∃ o p,ops[PNL.getD k 0]?=some o∧ops[PSL.getD k 0]?=some p∧o.dst=some (BL.getD k 0)∧o.guard=none∧p.dst=none∧p.guard=none∧vs.getD k 0<PVL.length∧(∃ e ∈ p.after,e.on=PNL.getD k 0∧Region.binds .any e=true)∧∃ e ∈ p.after,e.on=PVL.getD (vs.getD k 0) 0∧Region.binds .any e=true:=fun k hk=>by
  have:=List.all_eq_true.1 h3 k (List.mem_range.2 hk)
  unfold xall at this;cases ho:ops[PNL.getD k 0]? with
  | none=>rw[ho] at this;cases this
  | some o =>
   cases hp:ops[PSL.getD k 0]? with
   | none=>rw[ho,hp] at this;cases this
   | some p =>
    rw[ho,hp] at this;simp only[xC] at this;obtain⟨⟨⟨⟨⟨⟨x1,x2⟩,x3⟩,x4⟩,x5⟩,x6⟩,x7⟩:=this;exact⟨o,p,rfl,rfl,by simpa using x1,Option.isNone_iff_eq_none.1 x2,by simpa using x3,Option.isNone_iff_eq_none.1 x4,of_decide_eq_true x5,qN0 x6,qN0 x7⟩
 have hoth:∀ {s:Nat},(SL++BL).contains s=false→(∀ j,j<PVL.length→s≠SL.getD j 0)∧∀ k,k<PNL.length→s≠BL.getD k 0:=fun {s} h=>by
  have hn:s ∉ SL++BL:=fun hh=>by
   have:(SL++BL).contains s=true:=by simpa using hh
   rw[h] at this;cases this
  refine⟨fun j hj e=>hn ?_,fun k hk e=>hn ?_⟩
  ·rw[e];exact List.mem_append_left _ (qY1 (by omega))
  ·rw[e];exact List.mem_append_right _ (qY1 (by omega))
 refine zY8 hm (fun j=>PVL.getD j 0) (fun k=>PNL.getD k 0) (fun k=>PSL.getD k 0) PVL.length PNL.length (fun j=>SL.getD j 0) (fun k=>BL.getD k 0) (fun k=>vs.getD k 0) (dL D) T zs W0 a0 (vL L) ?_ ?_ ?_ ?_ (fun j j' hj hj' e=>qJ3 n1 hj hj' e) (fun k k' hk hk' e=>qJ3 n2 hk hk' e) (fun k k' hk hk' e=>qJ3 n3 (by omega) (by omega) e) ?_ ?_ ?_ (fun i o ho=>(row ho).1) (fun j w w' u hb h=>qM2 hV1 j w w' u hb h) (fun j w u g cs' y1 h=>zG1 hV2 j w u g cs' y1 h) hVs ?_ ?_ ?_ hz hi ?_ (fun j hj=>hsl _ (List.mem_append_left _ (qY1 (by omega)))) (fun k hk=>hsl _ (List.mem_append_right _ (qY1 (by omega)))) (fun j j' hj hj' e=>qJ3 s1 (by omega) (by omega) e) (fun j j' hj hj' e=>qJ3 s2 (by omega) (by omega) e) ?_ ?_
 ·intro i hi';have ho:ops[i]?=some ops[i]:=Array.getElem?_eq_getElem hi';rcases(row ho).2 with h|h|h
  ·exact .inl (qP4 h)
  ·exact .inr (.inl (qP4 h))
  ·obtain⟨k,x1,x2⟩:=qP4 h;exact .inr (.inr ⟨k,by omega,x2⟩)
 ·intro j hj;obtain⟨o,ho,-⟩:=val j hj;exact(Array.getElem?_eq_some_iff.1 ho).1
 ·intro k hk;obtain⟨o,p,ho,hp,-⟩:=sto k hk;exact(Array.getElem?_eq_some_iff.1 ho).1
 ·intro k hk;obtain⟨o,p,ho,hp,-⟩:=sto k hk;exact(Array.getElem?_eq_some_iff.1 hp).1
 ·intro j k hj hk;exact n4 _ (qY1 hj) _ (List.mem_append_left _ (qY1 hk))
 ·intro j k hj hk;exact n4 _ (qY1 hj) _ (List.mem_append_right _ (qY1 (by omega)))
 ·intro k k' hk hk';exact n5 _ (qY1 hk) _ (qY1 (by omega))
 ·intro j hj j' hj';obtain⟨o,ho,-,hd⟩:=val j hj;obtain⟨x1,x2⟩:=hd j' hj';refine⟨x1,fun o' ho'=>?_⟩
  obtain rfl:o=o':=xL2 (ho.symm.trans ho');exact x2
 ·intro j hj a w hk ho1 hd;obtain⟨o,ho,hds,-⟩:=val j hj;have h7:=hA j hj o ho a w hk (fun s hs=>ho1 s (hoth hs).1 (hoth hs).2) hd;rw[hds] at h7;rcases h7 with ⟨hg,h7⟩|h7
  ·exact qY8 ho hg h7
  ·exact h7
 ·intro k hk;obtain⟨o,p,ho,hp,x1,x2,-⟩:=sto k hk;obtain⟨o',ho',hop⟩:=hal k hk;obtain rfl:o=o':=xL2 (ho.symm.trans ho');exact⟨o,ho,x2,hop,x1⟩
 ·intro k hk;obtain⟨o,p,ho,hp,x1,x2,x3,x4,x5,x6,x7⟩:=sto k hk;obtain⟨p',hp',hop⟩:=hst k hk;obtain rfl:p=p':=xL2 (hp.symm.trans hp');exact⟨x5,p,hp,x4,hop,x3,x6,x7⟩
 ·intro j k hj hk;exact s3 _ (qY1 (by omega)) _ (qY1 (by omega))
 ·intro u g a w hb hu hg hap hs hd ho1;have q1:((List.range PVL.length).map (fun j=>((SL.getD j 0,u j):Tmp×Value))++(List.range PNL.length).map (fun k=>((BL.getD k 0,Value.pointer (some ⟨g k,0,none⟩)):Tmp×Value))).map (fun p:Tmp×Value=>p.1)=(List.range PVL.length).map (fun j=>SL.getD j 0)++(List.range PNL.length).map (fun k=>BL.getD k 0):=by simp[Function.comp_def]
  have ha:=qT0 (a:=a) (a0:=a0) (l:=(List.range PVL.length).map (fun j=>((SL.getD j 0,u j):Tmp×Value))++(List.range PNL.length).map (fun k=>((BL.getD k 0,Value.pointer (some ⟨g k,0,none⟩)):Tmp×Value))) (by
    rw[q1,List.nodup_append];refine⟨?_,?_,?_⟩
    ·refine List.pairwise_map.2 ((List.nodup_range (n:=PVL.length)).imp_of_mem ?_);intro x y hx hy hne he;have:=List.mem_range.1 hx
     have:=List.mem_range.1 hy
     exact hne (qJ3 s1 (by omega) (by omega) he)
    ·refine List.pairwise_map.2 ((List.nodup_range (n:=PNL.length)).imp_of_mem ?_);intro x y hx hy hne he;have:=List.mem_range.1 hx
     have:=List.mem_range.1 hy
     exact hne (qJ3 s2 (by omega) (by omega) he)
    ·intro x hx y hy;obtain⟨i,hi1,rfl⟩:=List.mem_map.1 hx;obtain⟨k,hk1,rfl⟩:=List.mem_map.1 hy;have:=List.mem_range.1 hi1
     have:=List.mem_range.1 hk1
     exact s3 _ (qY1 (by omega)) _ (qY1 (by omega))) hs hd (by
    intro p hp;rcases List.mem_append.1 hp with hp|hp
    ·obtain⟨i,hi1,rfl⟩:=List.mem_map.1 hp;exact(hu i (List.mem_range.1 hi1)).1
    ·obtain⟨k,hk1,rfl⟩:=List.mem_map.1 hp;exact(hg k (List.mem_range.1 hk1)).1) (fun s hsn=>ho1 s (fun i hi1 he=>hsn (List.mem_map.2 ⟨_,List.mem_append_left _ (List.mem_map.2 ⟨i,List.mem_range.2 hi1,rfl⟩),he.symm⟩)) (fun k hk1 he=>hsn (List.mem_map.2 ⟨_,List.mem_append_right _ (List.mem_map.2 ⟨k,List.mem_range.2 hk1,rfl⟩),he.symm⟩)))
  rw[ha];exact hQ u g w hb (fun j hj=>(hu j hj).2) (fun k hk=>(hg k hk).2) hap
end Go.Proofs.YtbanebginnakhaaGreatDoor
namespace Go.Proofs.YtbanebginnakhaaGreatDoor
open Go.RowKit Go.Fl64
def NC3 (cs:Array Value):Prop:=∃ (s1:Bool) (ao1:Option Addr) (n1 cp1:Nat) (e1:Int),cs = #[.bool s1,.slice ao1 n1 cp1,.int .i64 e1]
theorem PN.row3 {W:World} {A:Value} {t:Bool×Nat×Int} {g:Nat} {T:TypeId} {cs:Array Value} (h:PN W A t) (hE:W.heap[g]?=some (.cells cs T (0,0))) (hC:NC3 cs) (cs':Array Value):PN (W.setRow g cs') A t:=by
 obtain⟨_,_,_,_,_,rfl⟩:=hC;exact h.cells (s2:=false) (a2:=none) (m2:=0) (c2:=0) (e2:=0) (.inl hE) fun b hb=>setRow_other W g b cs' hb
attribute [local go_sem] qZ
attribute [local go_sem] qZ
attribute [local go_sem] qZ
attribute [local go_sem] qZ
def toD (t:Bool×Nat×Int) (m:Int):Nat:=if t.2.1=0 then 0 else tfF t.1 true t.2.1 t.2.2 m
attribute [local go_sem] qZ
attribute [local go_sem] qZ
attribute [local go_sem] qZ
attribute [local go_sem] qZ
attribute [local go_sem] qZ
attribute [local go_sem] qZ
def bU:Nat:=2200
theorem yO (a:Nat):fU a<2^bU:=by
 unfold fU;have h1:=Ie.mant_bound a;have h2:=(Ie.lp_bound a).2;obtain⟨e,he⟩:∃ e,e=(Ie.lp a+1074).toNat:=⟨_,rfl⟩;rw[←he];have h3:Ie.mant a<2^53:=by omega
 have h4:Ie.mant a*2^e<2^53*2^e:=xE4 h3 (xL5 _);rw[←xC3] at h4;exact xL8 h4 (xL6 (by decide) (by unfold bU;omega))
attribute [local go_sem] qZ
attribute [local go_sem] qZ
attribute [local go_sem] qZ
attribute [local go_sem] qZ
attribute [local go_sem] qZ
theorem yE8 {Z:Int} {b:Nat} (h:Z.natAbs<2^b) (hb:b≤60000) {W:World} {X:Value} (hX:PN W X (un Z 0)):Calls Tryz.prog 49 #[X] W fun r w'=>OutP W (un (-Z) 0) r w':=by
 obtain⟨ao,cap,rfl,hI⟩:=hX;have ok:=qG0 (p:=0) h hb (by omega)
 have f:=ok.facts;refine(yA9 hI (by omega) ok).mono ?_
 rintro r w' ⟨v,rfl,hO,hB⟩;have e:=zI1 (a:=Z) (p:=0);obtain⟨ao',cap',rfl,o1,o2,o3⟩:=hO.is;have hI':Is w' (.slice ao' (dlen (un Z 0).2.1) cap') (un Z 0).2.1:=⟨ao',cap',rfl,o1,o2,o3⟩;refine⟨_,_,_,_,_,rfl,⟨ao',cap',?_,?_⟩,hB⟩
 ·rw[←e];unfold gN;by_cases h0:(un Z 0).2.1=0
  ·have:=f.2.2.2.1 h0
   rw[if_pos h0,this,show dlen (false,0,(0:Int)).2.1=0 from qQ5];rfl
  ·rw[if_neg h0];have:0<dlen (un Z 0).2.1:=by have:=qK6 h0;omega
   rw[xL4 this,Bool.and_true]
 ·rw[←e];unfold gN;by_cases h0:(un Z 0).2.1=0
  ·rw[if_pos h0];rw[h0] at hI';exact hI'
  ·rw[if_neg h0];exact hI'
def isD (T:Bool×Nat×Int):World→Value→Prop:=fun w u=>DN w u T
theorem qG3 (T:Bool×Nat×Int):qW6 (isD T):=fun _ _ _ hb h=>DN.later h hb
theorem xV8 (T:TypeId):∀ L:List (World→Value→Prop),qI7 T (fun _=>False) L
 | []=>trivial
 | _ :: r=>⟨fun _ _ _ _ _ _ h=>h.elim,xV8 T r⟩
theorem qF9 {ops:Array Oper} {Q:Exit→Act→World→Prop} {id:Nat} (PVL SL:List Nat) (D:List (List Nat))
  (W0:World) (a0:Act) (L:List (World→Value→Prop)) (hchk:qchk ops PVL [] SL D [] []=true)
  (hV1:qH5 L) (hsl:∀ s ∈ SL,s<a0.tmps.size)
  (hA:∀ j,j<PVL.length→∀ o,ops[PVL.getD j 0]?=some o→∀ (a:Act) (w:World),Bw W0 w→(∀ s:Nat,SL.contains s=false→a.tmps[s]?=a0.tmps[s]?) →
   (∀ j' ∈ dL D j,∃ u,a.tmps[SL.getD j' 0]?=some u∧vL L j' w u) →
   (o.guard=none∧o.wp Tryz.prog a w (fun a' w'=>∃ u,a'=a.put o.dst u∧vL L j w' u∧Bw w w') Q)∨wpOp Tryz.prog ops Q (PVL.getD j 0) (fun a' w'=>∃ u,a'=a.put o.dst u∧vL L j w' u∧Bw w w') a w)
  (hQ:∀ (u:Nat→Value) (w:World),Bw W0 w→(∀ j,j<PVL.length→vL L j w (u j))→Q .normal (putL a0 ((List.range PVL.length).map (fun j=>(SL.getD j 0,u j)))) w) :
  (Code.region id ops true).wp Tryz.prog Q a0 W0 :=
 qE9 qX7 PVL [] SL D [] [] (fun _=>0) (fun _=>0) W0.heap.size 84 (fun _=>False) 3 W0 a0 L hchk hV1 (xV8 _ L) hsl
  (fun k hk=>absurd hk (Nat.not_lt_zero _)) (fun j hj o ho a w hk ho1 hd _=>hA j hj o ho a w hk.below ho1 hd) Tryz.info84
  (fun k hk=>absurd hk (Nat.not_lt_zero _)) (fun k hk=>absurd hk (Nat.not_lt_zero _)) (fun k hk=>absurd hk (Nat.not_lt_zero _)) (fun k k' hk=>absurd hk (Nat.not_lt_zero _)) (xL0 _)
  (fun u w hk hu _=>hQ u w hk.below hu)
theorem yW3 (g o:Nat) (s:Bool) (ao:Option Addr) (n cp:Nat) (e:Int) (w:World) (h0:w.cell? ⟨g,o,none⟩=some (.bool s)) (h1:w.cell? ⟨g,o+1,none⟩=some (.slice ao n cp)) (h2:w.cell? ⟨g,o+2,none⟩=some (.int .i64 e)):(Instr.loadAt 132 (.pointer (some ⟨g,o,none⟩))).run Tryz.prog w=.ok (.agg #[.bool s,.slice ao n cp,.int .i64 e]) w :=
 run_loadAt_mid w g o 132 [.bool s,.slice ao n cp,.int .i64 e] _ (fun j v hv=>by
  match j with
  | 0=>simp at hv;subst hv;exact h0
  | 1=>simp at hv;subst hv;exact h1
  | 2=>simp at hv;subst hv;exact h2
  | k+3=>simp at hv) Tryz.underlying132 rfl Tryz.info132
theorem zK6 {n:Int} (hn:0≤n∧n≤9223372036854775807) (w:World):Calls Tryz.prog 94 #[.int .i64 n] w fun r w'=>∃ A,r=.returned A∧DN w' A (un n 0)∧Bw w w':=by
 have h:=xB6 (n:=n) (w:=w) (by omega)
 rw[yV3] at h;exact h
theorem dV {a:Act} {s:Tmp} {L:List (World→Value→Prop)} {j:Nat} {w:World} {x:Value} (h:∃ u,a.tmps[s]?=some u∧vL L j w u) (e:vL L j=isV x):a.tmps[s]?=some x:=by
 obtain⟨u,h1,h2⟩:=h;rw[e] at h2;obtain rfl:u=x:=h2;exact h1
theorem zK0 {Q:Exit→Act→World→Prop} {o:Oper} {K:Act→World→Prop} {a:Act} {w:World} {s:Tmp} {g:Nat} {s':Bool} {ao:Option Addr} {n cp:Nat} {e:Int} (hop:o.op=.load 132 (.tmp s)) (hs:a.tmps[s]?=some (.pointer (some ⟨g,0,none⟩))) (h0:w.cell? ⟨g,0,none⟩=some (.bool s')) (h1:w.cell? ⟨g,1,none⟩=some (.slice ao n cp)) (h2:w.cell? ⟨g,2,none⟩=some (.int .i64 e)) (h:K (a.put o.dst (.agg #[.bool s',.slice ao n cp,.int .i64 e])) w):o.wp Tryz.prog a w K Q :=
 qZ7 (w':=w) (by simp[execOp,hop,qZ0 hs,yW3 g 0 s' ao n cp e w h0 h1 h2]) h
theorem map2 {a:Act} {s t:Tmp} {v u:Value} (h:a.tmps[s]?=some v) (h':a.tmps[t]?=some u) : #[Operand.tmp s,Operand.tmp t].map a.eval = #[v,u]:=by simp[qZ0 h,qZ0 h']
theorem zQ4 {Q:Exit→Act→World→Prop} {o:Oper} {K:Act→World→Prop} {a:Act} {w:World} {s:Tmp} {g:Nat} (hop:o.op=.fieldAddr 90 (.tmp s) 0) (hs:a.tmps[s]?=some (.pointer (some ⟨g,0,none⟩))) (h:K (a.put o.dst (.pointer (some ⟨g,0,none⟩))) w):o.wp Tryz.prog a w K Q :=
 qZ7 (w':=w) (by simp[execOp,hop,Act.eval,hs,go_sem]) h
theorem zQ3 {Q:Exit→Act→World→Prop} {o:Oper} {K:Act→World→Prop} {a:Act} {w:World} {s:Tmp} {g:Nat} (hop:o.op=.fieldAddr 90 (.tmp s) 1) (hs:a.tmps[s]?=some (.pointer (some ⟨g,0,none⟩))) (h:K (a.put o.dst (.pointer (some ⟨g,3,none⟩))) w):o.wp Tryz.prog a w K Q :=
 qZ7 (w':=w) (by simp[execOp,hop,Act.eval,hs,go_sem]) h
theorem qJ1 {Q:Exit→Act→World→Prop} {o:Oper} {K:Act→World→Prop} {a:Act} {w:World} {s:Tmp} {g f:Nat} {sx:Bool} {aox:Option Addr} {nx cpx:Nat} {ex:Int} (hop:o.op=.load 84 (.tmp s)) (hs:a.tmps[s]?=some (.pointer (some ⟨g,f,none⟩))) (h0:w.cell? ⟨g,f,none⟩=some (.bool sx)) (h1:w.cell? ⟨g,f+1,none⟩=some (.slice aox nx cpx)) (h2:w.cell? ⟨g,f+2,none⟩=some (.int .i64 ex)) (h:K (a.put o.dst (.agg #[.bool sx,.slice aox nx cpx,.int .i64 ex])) w):o.wp Tryz.prog a w K Q :=
 qZ7 (w':=w) (by simp[execOp,hop,qZ0 hs,yW2 _ f _ _ _ _ _ w h0 h1 h2]) h
theorem qV2 {P:Program} {Q:Exit→Act→World→Prop} {o:Oper} {K:Act→World→Prop} {a:Act} {w:World} {s:Tmp} {i:Nat} {vs:Array Value} {v:Value} (hop:o.op=.extract (.tmp s) i) (hs:a.tmps[s]?=some (.tuple vs)) (hv:vs[i]?=some v) (h:K (a.put o.dst v) w):o.wp P a w K Q :=
 qZ7 (w':=w) (by simp[execOp,hop,qZ0 hs,hv,Instr.extract]) h
theorem map3k {a:Act} {s t:Tmp} {v u c:Value} (h:a.tmps[s]?=some v) (h':a.tmps[t]?=some u) : #[Operand.tmp s,Operand.tmp t,Operand.const c].map a.eval = #[v,u,c]:=by simp[Act.eval,h,h']
def isT3 (t:Bool×Nat×Int) (b:Bool):World→Value→Prop:=fun w u=>∃ A,u=.tuple #[A,.bool b,.int .i64 0]∧PN w A t
theorem qC6 (t:Bool×Nat×Int) (b:Bool):qW6 (isT3 t b):=fun _ _ _ hb ⟨A,h1,h2⟩=>⟨A,h1,h2.later hb⟩
theorem zZ0 (t:Bool×Nat×Int) (b:Bool):∀ w u g cs',w.heap[g]?=some (.cells #[.bool false,.slice none 0 0,.int .i64 0] 84 (0,0))→isT3 t b w u→isT3 t b (w.setRow g cs') u:=fun w u g cs' hg ⟨A,h1,h2⟩=>⟨A,h1,PN.row3 h2 hg ⟨_,_,_,_,_,rfl⟩ cs'⟩
theorem qK2 (t:Bool×Nat×Int):∀ w u g cs',w.heap[g]?=some (.cells #[.bool false,.slice none 0 0,.int .i64 0] 84 (0,0))→isP t w u→isP t (w.setRow g cs') u:=fun w u g cs' hg h2=>PN.row3 h2 hg ⟨_,_,_,_,_,rfl⟩ cs'
theorem qI9 (w:World):(zeroValue 84).run Tryz.prog w=.ok (.agg #[.bool false,.slice none 0 0,.int .i64 0]) w:=Tryz.zeroValue84 w
def zU5 (W:World) (t:Bool×Nat×Int) (b:Bool) (r:Ending) (w':World):Prop:=∃ (s1:Bool) (ao1:Option Addr) (n1 cp1:Nat) (e1:Int),r=.returned (.tuple #[.agg #[.bool s1,.slice ao1 n1 cp1,.int .i64 e1],.bool b])∧PN w' (.agg #[.bool s1,.slice ao1 n1 cp1,.int .i64 e1]) t∧Bw W w'
theorem yM4 (s1:Bool) (ao1:Option Addr) (n1 cp1:Nat) (e1:Int) (s2:Bool) (ao2:Option Addr) (n2 cp2:Nat) (e2:Int) (s3:Bool) (ao3:Option Addr) (n3 cp3:Nat) (e3:Int) (t1 t2 t3 tm tq:Bool×Nat×Int) (bx:Bool) (w:World) (h1:PN w (.agg #[.bool s1,.slice ao1 n1 cp1,.int .i64 e1]) t1) (h2:PN w (.agg #[.bool s2,.slice ao2 n2 cp2,.int .i64 e2]) t2) (h3:PN w (.agg #[.bool s3,.slice ao3 n3 cp3,.int .i64 e3]) t3)
  (k1:∀ W X Y,Bw w W→PN W X t3→PN W Y t1→Calls Tryz.prog 52 #[X,Y] W fun r w'=>OutA W tm r w')
  (k2:∀ W X Y,Bw w W→PN W X tm→PN W Y t2→Calls Tryz.prog 154 #[X,Y,.int .i64 0] W fun r w'=>∃ A,r=.returned (.tuple #[A,.bool bx,.int .i64 0])∧PN w' A tq∧Bw W w') :
  Calls Tryz.prog 153 #[.agg #[.bool s1,.slice ao1 n1 cp1,.int .i64 e1,.bool s2,.slice ao2 n2 cp2,.int .i64 e2],.agg #[.bool s3,.slice ao3 n3 cp3,.int .i64 e3]] w fun r w'=>zU5 w tq bx r w':=by
 obtain⟨W,hW⟩:∃ W,W=((w.alloc (.cells #[.bool s1,.slice ao1 n1 cp1,.int .i64 e1,.bool s2,.slice ao2 n2 cp2,.int .i64 e2] 90)).alloc (.cells #[.bool s3,.slice ao3 n3 cp3,.int .i64 e3] 84)).alloc (.cells #[.bool false,.slice none 0 0,.int .i64 0] 84):=⟨_,rfl⟩;obtain⟨m1,m2,m3,hBW⟩:=zL1 _ _ _ hW;have H0:Hid (W.heap[w.heap.size]?=some (.cells #[.bool s1,.slice ao1 n1 cp1,.int .i64 e1,.bool s2,.slice ao2 n2 cp2,.int .i64 e2] 90 (0,0))∧PBx W (w.heap.size+1) s3 ao3 n3 cp3 e3 t3∧W.heap[w.heap.size+1+1]?=some (.cells #[.bool false,.slice none 0 0,.int .i64 0] 84 (0,0))∧Bw w W∧PN W (.agg #[.bool s1,.slice ao1 n1 cp1,.int .i64 e1]) t1∧PN W (.agg #[.bool s2,.slice ao2 n2 cp2,.int .i64 e2]) t2):=⟨m1,⟨m2,h3.later hBW⟩,m3,hBW,h1.later hBW,h2.later hBW⟩;clear m1 m2 m3 hBW h1 h2 h3
 go_enter Tryz.func153,Tryz.ntmps153
 go_upto_region 1 with fail;rw[←hW];clear hW;obtain⟨m1,m2,m3,hBW,p1,p2⟩:=H0.out;refine qM qX7 [0,1,2,3,4,5,6,7,8,9,10,13,14] [11] [12] [10,11,12,13,14,15,16,9,17,18,19,7,8] [6] [[],[],[1],[0,2],[],[4],[3,5],[6],[7],[7],[7],[9],[10]] [8] 84 #[.bool false,.slice none 0 0,.int .i64 0] W _ [isV (.agg #[.bool s3,.slice ao3 n3 cp3,.int .i64 e3]),isV (.pointer (some ⟨w.heap.size,0,none⟩)),isV (.agg #[.bool s1,.slice ao1 n1 cp1,.int .i64 e1]),isP tm,isV (.pointer (some ⟨w.heap.size,3,none⟩)),isV (.agg #[.bool s2,.slice ao2 n2 cp2,.int .i64 e2]),isT3 tq bx,isT3 tq bx,isP tq,isV (.bool bx),isV (.int .i64 0),isV (.bool bx),isV (.int .i64 0)] (by kernel_rfl) ⟨qQ2 _,qQ2 _,qQ2 _,qX8 _,qQ2 _,qQ2 _,qC6 _ _,qC6 _ _,qX8 _,qQ2 _,qQ2 _,qQ2 _,qQ2 _,trivial⟩ ⟨fun _ _ _ _ _ h=>h,fun _ _ _ _ _ h=>h,fun _ _ _ _ _ h=>h,qK2 _,fun _ _ _ _ _ h=>h,fun _ _ _ _ _ h=>h,zZ0 _ _,zZ0 _ _,qK2 _,fun _ _ _ _ _ h=>h,fun _ _ _ _ _ h=>h,fun _ _ _ _ _ h=>h,fun _ _ _ _ _ h=>h,trivial⟩ (by show ∀ s ∈ [10,11,12,13,14,15,16,9,17,18,19,7,8] ++ [6],s<22;decide) ?_ ?_ ?_ qI9 Tryz.info84 ?_ ?_
 ·intro k' hk U u h;obtain rfl:k'=0:=Nat.lt_one_iff.1 hk;obtain⟨ao,cap,rfl,-⟩:=(show PN U u tq from h);exact⟨_,rfl,rfl,one3 rfl rfl⟩
 ·intro j hj o ho act U hb hoth hdep;have hj':j<13:=hj;have hbU:Bw w U:=hBW.trans (hb.mono hBW.size);have t2':act.tmps[(2:Nat)]?=some (Value.pointer (some ⟨w.heap.size,0,none⟩)):=(hoth 2 (by decide)).trans rfl
  have t3':act.tmps[(3:Nat)]?=some (Value.pointer (some ⟨w.heap.size+1,0,none⟩)):=(hoth 3 (by decide)).trans rfl
  have d2:=(qV9 (qQ m1 hb (qQ6 m1))).1;have d3:=(qJ7 (qQ m2.1 hb (qQ6 m2.1))).1;rcases(by omega:j=0∨j=1∨j=2∨j=3∨j=4∨j=5∨j=6∨j=7∨j=8∨j=9∨j=10∨j=11∨j=12)with rfl|rfl|rfl|rfl|rfl|rfl|rfl|rfl|rfl|rfl|rfl|rfl|rfl
  ·obtain rfl:=xL2 ho;exact .inl ⟨rfl,qJ1 (f:=0) rfl t3' d3.1 d3.2.1 d3.2.2 ⟨_,rfl,rfl,xL1 _ _⟩⟩
  ·obtain rfl:=xL2 ho;exact .inl ⟨rfl,zQ4 rfl t2' ⟨_,rfl,rfl,xL1 _ _⟩⟩
  ·obtain rfl:=xL2 ho;have y:act.tmps[(11:Nat)]?=_:=dV (hdep 1 (by simp[dL])) rfl
   exact .inl ⟨rfl,qJ1 (f:=0) rfl y d2.1 d2.2.1 d2.2.2.1 ⟨_,rfl,rfl,xL1 _ _⟩⟩
  ·obtain rfl:=xL2 ho;have y0:act.tmps[(10:Nat)]?=_:=dV (hdep 0 (by simp[dL])) rfl
   have y2:act.tmps[(12:Nat)]?=_:=dV (hdep 2 (by simp[dL])) rfl
   refine .inl ⟨rfl,qZ1 rfl (qX2 Tryz.func52 (by kernel_rfl) (by kernel_rfl)) (map2 y0 y2) ?_⟩
   refine(k1 U _ _ hbU (m2.2.later hb) (p1.later hb)).mono ?_
   rintro r w' ⟨_,_,_,_,_,rfl,hA,hb'⟩;exact⟨_,rfl,_,rfl,hA,hb'⟩
  ·obtain rfl:=xL2 ho;exact .inl ⟨rfl,zQ3 rfl t2' ⟨_,rfl,rfl,xL1 _ _⟩⟩
  ·obtain rfl:=xL2 ho;have y:act.tmps[(14:Nat)]?=_:=dV (hdep 4 (by simp[dL])) rfl
   exact .inl ⟨rfl,qJ1 (f:=3) rfl y d2.2.2.2.1 d2.2.2.2.2.1 d2.2.2.2.2.2 ⟨_,rfl,rfl,xL1 _ _⟩⟩
  ·obtain rfl:=xL2 ho;obtain⟨u3,y3,v3⟩:=hdep 3 (by simp[dL])
   have y3':act.tmps[(13:Nat)]?=_:=y3;have y5:act.tmps[(15:Nat)]?=_:=dV (hdep 5 (by simp[dL])) rfl
   refine .inl ⟨rfl,qZ1 rfl (qX2 Tryz.func154 (by kernel_rfl) (by kernel_rfl)) (map3k y3' y5) ?_⟩
   refine(k2 U _ _ hbU v3 (p2.later hb)).mono ?_
   rintro r w' ⟨A,rfl,hA,hb'⟩;exact⟨_,rfl,_,rfl,⟨A,rfl,hA⟩,hb'⟩
  ·obtain rfl:=xL2 ho;obtain⟨u6,y6,v6⟩:=hdep 6 (by simp[dL])
   have y6':act.tmps[(16:Nat)]?=_:=y6;exact .inl ⟨rfl,qZ5 rfl y6' ⟨_,rfl,v6,xL1 _ _⟩⟩
  ·obtain rfl:=xL2 ho;obtain⟨u7,y7,A,rfl,vA⟩:=hdep 7 (by simp[dL])
   have y7':act.tmps[(9:Nat)]?=_:=y7;exact .inl ⟨rfl,qV2 rfl y7' rfl ⟨_,rfl,vA,xL1 _ _⟩⟩
  ·obtain rfl:=xL2 ho;obtain⟨u7,y7,A,rfl,vA⟩:=hdep 7 (by simp[dL])
   have y7':act.tmps[(9:Nat)]?=_:=y7;exact .inl ⟨rfl,qV2 rfl y7' rfl ⟨_,rfl,rfl,xL1 _ _⟩⟩
  ·obtain rfl:=xL2 ho;obtain⟨u7,y7,A,rfl,vA⟩:=hdep 7 (by simp[dL])
   have y7':act.tmps[(9:Nat)]?=_:=y7;exact .inl ⟨rfl,qV2 rfl y7' rfl ⟨_,rfl,rfl,xL1 _ _⟩⟩
  ·obtain rfl:=xL2 ho;have y:act.tmps[(18:Nat)]?=_:=dV (hdep 9 (by simp[dL])) rfl
   exact .inl ⟨rfl,qX3 rfl y ⟨_,rfl,rfl,xL1 _ _⟩⟩
  ·obtain rfl:=xL2 ho;have y:act.tmps[(19:Nat)]?=_:=dV (hdep 10 (by simp[dL])) rfl
   exact .inl ⟨rfl,qX3 rfl y ⟨_,rfl,rfl,xL1 _ _⟩⟩
 ·intro k' hk;obtain rfl:k'=0:=Nat.lt_one_iff.1 hk;exact⟨_,rfl,rfl⟩
 ·intro k' hk;obtain rfl:k'=0:=Nat.lt_one_iff.1 hk;exact⟨_,rfl,rfl⟩
 ·intro u g W3 hb3 hu hg hap;obtain⟨g0,cs0,q0,z0⟩:=hg 0 (by decide)
  have q8:PN W3 (u 8) tq:=hu 8 (by decide)
  have u11:u 11=.bool bx:=hu 11 (by decide)
  have q0':u 8=.agg cs0:=q0;rw[q0'] at q8;obtain⟨s5,ao5,n5,cp5,e5,h5⟩:=q8.shape1;obtain rfl:=Value.agg.inj h5;obtain⟨gqS,hgS⟩:∃ gqS,gqS=g 0:=⟨_,rfl⟩;rw[←hgS] at z0 g0;have H3:Hid (PBx W3 gqS s5 ao5 n5 cp5 e5 tq∧W3.heap[w.heap.size+1+1]?=some (.cells #[.bool false,.slice none 0 0,.int .i64 0] 84 (0,0))∧Bw w W3):=⟨⟨z0,q8⟩,qQ m3 hb3 (qQ6 m3),hBW.trans (hb3.mono hBW.size)⟩;clear hu hg hap hb3 m1 m2 m3 hBW p1 p2 H0 q0 q0' z0 g0 q8 h5 k1 k2;simp only[putL,show List.range 13 = [0,1,2,3,4,5,6,7,8,9,10,11,12] from rfl,show List.range 1 = [0] from rfl,List.length_cons,List.length_nil,List.getD_cons_zero,List.getD_cons_succ,List.map_cons,List.map_nil,List.cons_append,List.nil_append,List.foldl_cons,List.foldl_nil,Nat.reduceLT,Nat.reduceMod,Nat.reduceDiv,Nat.reduceMul,Nat.reduceAdd,Nat.reduceEqDiff,reduceIte,Nat.one_ne_zero,Act.put,List.setIfInBounds_toArray,List.set_cons_zero,List.set_cons_succ];rw[←hgS,u11];clear hgS u11;obtain⟨⟨c0,c1,c2⟩,-⟩:=qQ1 H3.out.1.1;obtain⟨⟨x1,x2,x3⟩,x4,x5,x6⟩:=qQ1 H3.out.2.1
  go_wp2;refine xW9 (qQ4 rfl _ _ (w.heap.size+1+1) 84 #[.bool s5,.slice ao5 n5 cp5,.int .i64 e5] (0,0) _ rfl (qX4 _ _ _ H3.out.2.1) Tryz.underlying84 rfl Tryz.info84) rfl ?_;exact⟨_,_,_,_,_,rfl,qB0 H3.out.1.2 H3.out.2.1 _ _ _,qQ3 H3.out.2.2 (by omega) _ _ _⟩
theorem yG7 {a:Act} {s:Tmp} {v c:Value} (h:a.tmps[s]?=some v) : #[Operand.tmp s,Operand.const c].map a.eval = #[v,c]:=by simp[Act.eval,h]
theorem zF1 {Q:Exit→Act→World→Prop} {o:Oper} {K:Act→World→Prop} {a:Act} {w:World} {s:Tmp} {x:Int} (hx : -4611686018427387904≤x∧x≤4611686018427387904) (hop:o.op=.unOp .neg 3 (.tmp s)) (hs:a.tmps[s]?=some (.int .i64 x)) (h:K (a.put o.dst (.int .i64 (-x))) w):o.wp Tryz.prog a w K Q:=by
 have hw:IntKind.i64.wrap (-x) = -x:=by rw[xW6];omega
 exact qZ7 (w':=w) (by simp[execOp,hop,Act.eval,hs,go_sem,hw]) h
theorem yG {Q:Exit→Act→World→Prop} {o:Oper} {K:Act→World→Prop} {a:Act} {w:World} {s:Tmp} {x c:Int} (hx : -4611686018427387904≤x - c∧x - c≤4611686018427387904) (hop:o.op=.binOp .sub 3 (.tmp s) (.const (.int .i64 c)) 3) (hs:a.tmps[s]?=some (.int .i64 x)) (h:K (a.put o.dst (.int .i64 (x - c))) w):o.wp Tryz.prog a w K Q:=by
 have hw:IntKind.i64.wrap (x - c)=x - c:=by rw[xW6];omega
 exact qZ7 (w':=w) (by simp[execOp,hop,Act.eval,hs,go_sem,hw]) h
theorem zA6 (t t':Bool×Nat×Int):∀ w u g cs',w.heap[g]?=some (.cells #[.bool false,.slice none 0 0,.int .i64 0] 84 (0,0))→isF t t' w u→isF t t' (w.setRow g cs') u:=fun w u g cs' hg ⟨_,_,_,_,_,_,_,_,_,_,h1,h2,h3⟩=>⟨_,_,_,_,_,_,_,_,_,_,h1,PN.row3 h2 hg ⟨_,_,_,_,_,rfl⟩ cs',PN.row3 h3 hg ⟨_,_,_,_,_,rfl⟩ cs'⟩
def isW2 (t:Bool×Nat×Int) (b:Bool):World→Value→Prop:=fun w u=>∃ A,u=.tuple #[A,.bool b]∧PN w A t
theorem qB3 (t:Bool×Nat×Int) (b:Bool):qW6 (isW2 t b):=fun _ _ _ hb ⟨A,h1,h2⟩=>⟨A,h1,h2.later hb⟩
theorem qP7 (t:Bool×Nat×Int) (b:Bool):∀ w u g cs',w.heap[g]?=some (.cells #[.bool false,.slice none 0 0,.int .i64 0] 84 (0,0))→isW2 t b w u→isW2 t b (w.setRow g cs') u:=fun w u g cs' hg ⟨A,h1,h2⟩=>⟨A,h1,PN.row3 h2 hg ⟨_,_,_,_,_,rfl⟩ cs'⟩
theorem qB8 {a:Act} {s:Tmp} {v:Value} (h:a.tmps[s]?=some v) : #[Operand.tmp s].map a.eval = #[v]:=by simp[qZ0 h]
theorem yN0 (s3:Bool) (ao3:Option Addr) (n3 cp3:Nat) (e3:Int) (T X sg:Int) (t1 t2 ta tn:Bool×Nat×Int) (bx:Bool) (w:World) (h3:PN w (.agg #[.bool s3,.slice ao3 n3 cp3,.int .i64 e3]) ta) (hT1 : -70000≤T) (hT2:T≤70000) (hX:Hid ((T - 1)*1262611 / 4194304=X))
  (k1:Hid (∀ W,Bw w W→PN W (.agg #[.bool s3,.slice ao3 n3 cp3,.int .i64 e3]) ta→Calls Tryz.prog 152 #[.agg #[.bool s3,.slice ao3 n3 cp3,.int .i64 e3]] W fun r w'=>r=.returned (.int .i64 T)∧Bw W w'))
  (k2:Hid (∀ W,Bw w W→Calls Tryz.prog 83 #[.int .i64 (-X - 1)] W fun r w'=>qS7 W t1 t2 r w'))
  (k3:Hid (∀ (s1:Bool) (ao1:Option Addr) (n1 cp1:Nat) (e1:Int) (s2:Bool) (ao2:Option Addr) (n2 cp2:Nat) (e2:Int) (s3:Bool) (ao3:Option Addr) (n3 cp3:Nat) (e3:Int) W,Bw w W→PN W (.agg #[.bool s1,.slice ao1 n1 cp1,.int .i64 e1]) t1→PN W (.agg #[.bool s2,.slice ao2 n2 cp2,.int .i64 e2]) t2→PN W (.agg #[.bool s3,.slice ao3 n3 cp3,.int .i64 e3]) ta→Calls Tryz.prog 153 #[.agg #[.bool s1,.slice ao1 n1 cp1,.int .i64 e1,.bool s2,.slice ao2 n2 cp2,.int .i64 e2],.agg #[.bool s3,.slice ao3 n3 cp3,.int .i64 e3]] W fun r w'=>zU5 W tn bx r w'))
  (k4:Hid (∀ W X,Bw w W→PN W X tn→Calls Tryz.prog 47 #[X] W fun r w'=>r=.returned (.int .i64 sg)∧Bw W w')) (hsg:Hid (-1≤sg∧sg≤1)) :
  Calls Tryz.prog 104 #[.agg #[.bool s3,.slice ao3 n3 cp3,.int .i64 e3]] w fun r w'=>r=.returned (.int .i64 (if 0<sg then X+1 else X))∧Bw w w':=by
 obtain⟨R,hR⟩:∃ R,R=(if 0<sg then X+1 else X):=⟨_,rfl⟩;rw[←hR];have HRR:Hid (R=(if 0<sg then X+1 else X)):=hR;have hXb:Hid (-30000≤X∧X≤30000):=(by rw[←hX.out];omega : -30000≤X∧X≤30000)
 have hw1:IntKind.i64.wrap (T - 1)=T - 1:=by rw[xW6];omega
 have hw2:IntKind.i64.wrap ((T - 1)*1262611)=(T - 1)*1262611:=by rw[xW6];omega
 obtain⟨W,hW⟩:∃ W,W=w.alloc (.cells #[.bool s3,.slice ao3 n3 cp3,.int .i64 e3] 84):=⟨_,rfl⟩;have H0:Hid (PBx W w.heap.size s3 ao3 n3 cp3 e3 ta∧Bw w W):=(by
  have hb:Bw w W:=by rw[hW];exact(xL1 _ _).alloc (xL0 _) _
  exact⟨⟨by rw[hW];exact xW8 _ _,h3.later hb⟩,hb⟩:_∧_)
 obtain⟨⟨c0,c1,c2⟩,-⟩:=qQ1 H0.out.1.1;have kk:=k1.out W H0.out.2 H0.out.1.2;clear k1 h3 hR
 go_enter Tryz.func104,Tryz.ntmps104
 go_upto_region 1 with fail;rw[←hW];clear hW
 go_wp2_with fail;refine kk.mono ?_;rintro r w1 ⟨rfl,hb1⟩;clear kk c0 c1 c2;have H1:Hid (PBx w1 w.heap.size s3 ao3 n3 cp3 e3 ta∧Bw w w1):=⟨H0.out.1.later hb1,H0.out.2.trans (hb1.mono H0.out.2.size)⟩;clear H0 hb1
 go_upto_region 2 with fail;rw[hX.out];clear hw1 hw2 hX hT1 hT2;obtain⟨m1,hBW⟩:=H1.out;obtain⟨x1,x2⟩:=hXb.out;refine qM qX7 [0,1,2,3,4,5,6,7,8,11] [9] [10] [12,13,14,15,16,17,11,18,19,5] [4] [[],[0],[1],[2],[],[3,4],[5],[6],[6],[8]] [7] 84 #[.bool false,.slice none 0 0,.int .i64 0] w1 _ [isV (.int .i64 X),isV (.int .i64 (-X)),isV (.int .i64 (-X - 1)),isF t1 t2,isV (.agg #[.bool s3,.slice ao3 n3 cp3,.int .i64 e3]),isW2 tn bx,isW2 tn bx,isP tn,isV (.bool bx),isV (.bool bx)] (by kernel_rfl) ⟨qQ2 _,qQ2 _,qQ2 _,zZ1 _ _,qQ2 _,qB3 _ _,qB3 _ _,qX8 _,qQ2 _,qQ2 _,trivial⟩ ⟨fun _ _ _ _ _ h=>h,fun _ _ _ _ _ h=>h,fun _ _ _ _ _ h=>h,zA6 _ _,fun _ _ _ _ _ h=>h,qP7 _ _,qP7 _ _,qK2 _,fun _ _ _ _ _ h=>h,fun _ _ _ _ _ h=>h,trivial⟩ (by show ∀ s ∈ [12,13,14,15,16,17,11,18,19,5] ++ [4],s<26;decide) ?_ ?_ ?_ qI9 Tryz.info84 ?_ ?_
 ·intro k' hk U u h;obtain rfl:k'=0:=Nat.lt_one_iff.1 hk;obtain⟨ao,cap,rfl,-⟩:=(show PN U u tn from h);exact⟨_,rfl,rfl,one3 rfl rfl⟩
 ·intro j hj o ho act U hb hoth hdep;have hj':j<10:=hj;have hbU:Bw w U:=hBW.trans (hb.mono hBW.size);have t1':act.tmps[(1:Nat)]?=some (Value.pointer (some ⟨w.heap.size,0,none⟩)):=(hoth 1 (by decide)).trans rfl
  have t3':act.tmps[(3:Nat)]?=some (Value.int .i64 X):=(hoth 3 (by decide)).trans rfl
  have d1:=(qJ7 (qQ m1.1 hb (qQ6 m1.1))).1;rcases(by omega:j=0∨j=1∨j=2∨j=3∨j=4∨j=5∨j=6∨j=7∨j=8∨j=9)with rfl|rfl|rfl|rfl|rfl|rfl|rfl|rfl|rfl|rfl
  ·obtain rfl:=xL2 ho;exact .inl ⟨rfl,qZ5 rfl t3' ⟨_,rfl,rfl,xL1 _ _⟩⟩
  ·obtain rfl:=xL2 ho;have y:act.tmps[(12:Nat)]?=_:=dV (hdep 0 (by simp[dL])) rfl
   exact .inl ⟨rfl,zF1 (by omega) rfl y ⟨_,rfl,rfl,xL1 _ _⟩⟩
  ·obtain rfl:=xL2 ho;have y:act.tmps[(13:Nat)]?=_:=dV (hdep 1 (by simp[dL])) rfl
   exact .inl ⟨rfl,yG (by omega) rfl y ⟨_,rfl,rfl,xL1 _ _⟩⟩
  ·obtain rfl:=xL2 ho;have y:act.tmps[(14:Nat)]?=_:=dV (hdep 2 (by simp[dL])) rfl
   refine .inl ⟨rfl,qZ1 rfl (qX2 Tryz.func83 (by kernel_rfl) (by kernel_rfl)) (qB8 y) ?_⟩
   refine(k2.out U hbU).mono ?_
   rintro r w' ⟨A,rfl,hA,hb'⟩;exact⟨_,rfl,_,rfl,hA,hb'⟩
  ·obtain rfl:=xL2 ho;exact .inl ⟨rfl,qJ1 (f:=0) rfl t1' d1.1 d1.2.1 d1.2.2 ⟨_,rfl,rfl,xL1 _ _⟩⟩
  ·obtain rfl:=xL2 ho;obtain⟨u3,y3,v3⟩:=hdep 3 (by simp[dL])
   have y3':act.tmps[(15:Nat)]?=_:=y3;obtain⟨s1,ao1,n1,cp1,e1,s2,ao2,n2,cp2,e2,rfl,q1,q2⟩:=(show Fv U u3 t1 t2 from v3);have y4:act.tmps[(16:Nat)]?=_:=dV (hdep 4 (by simp[dL])) rfl
   refine .inl ⟨rfl,qZ1 rfl (qX2 Tryz.func153 (by kernel_rfl) (by kernel_rfl)) (map2 y3' y4) ?_⟩
   refine(k3.out s1 ao1 n1 cp1 e1 s2 ao2 n2 cp2 e2 s3 ao3 n3 cp3 e3 U hbU q1 q2 (m1.2.later hb)).mono ?_
   rintro r w' ⟨_,_,_,_,_,rfl,hA,hb'⟩;exact⟨_,rfl,_,rfl,⟨_,rfl,hA⟩,hb'⟩
  ·obtain rfl:=xL2 ho;obtain⟨u5,y5,v5⟩:=hdep 5 (by simp[dL])
   have y5':act.tmps[(17:Nat)]?=_:=y5;exact .inl ⟨rfl,qZ5 rfl y5' ⟨_,rfl,v5,xL1 _ _⟩⟩
  ·obtain rfl:=xL2 ho;obtain⟨u6,y6,A,rfl,vA⟩:=hdep 6 (by simp[dL])
   have y6':act.tmps[(11:Nat)]?=_:=y6;exact .inl ⟨rfl,qV2 rfl y6' rfl ⟨_,rfl,vA,xL1 _ _⟩⟩
  ·obtain rfl:=xL2 ho;obtain⟨u6,y6,A,rfl,vA⟩:=hdep 6 (by simp[dL])
   have y6':act.tmps[(11:Nat)]?=_:=y6;exact .inl ⟨rfl,qV2 rfl y6' rfl ⟨_,rfl,rfl,xL1 _ _⟩⟩
  ·obtain rfl:=xL2 ho;have y:act.tmps[(19:Nat)]?=_:=dV (hdep 8 (by simp[dL])) rfl
   exact .inl ⟨rfl,qX3 rfl y ⟨_,rfl,rfl,xL1 _ _⟩⟩
 ·intro k' hk;obtain rfl:k'=0:=Nat.lt_one_iff.1 hk;exact⟨_,rfl,rfl⟩
 ·intro k' hk;obtain rfl:k'=0:=Nat.lt_one_iff.1 hk;exact⟨_,rfl,rfl⟩
 ·intro u g W3 hb3 hu hg hap;obtain⟨g0,cs0,q0,z0⟩:=hg 0 (by decide)
  have q7:PN W3 (u 7) tn:=hu 7 (by decide)
  have q0':u 7=.agg cs0:=q0;rw[q0'] at q7;obtain⟨s5,ao5,n5,cp5,e5,h5⟩:=q7.shape1;obtain rfl:=Value.agg.inj h5;obtain⟨gqS,hgS⟩:∃ gqS,gqS=g 0:=⟨_,rfl⟩;rw[←hgS] at z0 g0;have H3:Hid (PBx W3 gqS s5 ao5 n5 cp5 e5 tn∧Bw w W3):=⟨⟨z0,q7⟩,hBW.trans (hb3.mono hBW.size)⟩;clear hu hg hap hb3 m1 hBW H1 q0 q0' z0 g0 q7 h5 k2 k3 x1 x2;simp only[putL,show List.range 10 = [0,1,2,3,4,5,6,7,8,9] from rfl,show List.range 1 = [0] from rfl,List.length_cons,List.length_nil,List.getD_cons_zero,List.getD_cons_succ,List.map_cons,List.map_nil,List.cons_append,List.nil_append,List.foldl_cons,List.foldl_nil,Nat.reduceLT,Nat.reduceMod,Nat.reduceDiv,Nat.reduceMul,Nat.reduceAdd,Nat.reduceEqDiff,reduceIte,Nat.one_ne_zero,Act.put,List.setIfInBounds_toArray,List.set_cons_zero,List.set_cons_succ];rw[←hgS];clear hgS;obtain⟨⟨c0,c1,c2⟩,-⟩:=qQ1 H3.out.1.1;have kk:=k4.out W3 _ H3.out.2 H3.out.1.2;clear k4
  go_wp2_with fail;refine kk.mono ?_;rintro r w4 ⟨rfl,hb4⟩;have H4:Hid (Bw w w4):=H3.out.2.trans (hb4.mono H3.out.2.size);clear kk c0 c1 c2 hb4 H3;have hw3:IntKind.i64.wrap (X+1)=X+1:=by have:=hXb.out;rw[xW6];omega
  by_cases hs:0<sg
  ·obtain rfl:R=X+1:=by rw[HRR.out,if_pos hs]
   go_wp2
   go_ret;exact⟨rfl,H4.out⟩
  ·obtain rfl:R=X:=by rw[HRR.out,if_neg hs]
   go_wp2
   go_ret;exact⟨rfl,H4.out⟩
theorem yK4 (s1:Bool) (v:Value) (e:Int) (x n:Nat) (w:World) (h:Is w v x) (hn:Hid (dlen x=n)) (hn2:n≤2) (he0:0≤e) (he1:e<64) (hx:Hid (x*2^e.toNat<18446744073709551616)) :
  Calls Tryz.prog 156 #[.agg #[.bool s1,v,.int .i64 e]] w fun r w'=>r=.returned (.int .u64 (x*2^e.toNat:Nat))∧Bw w w':=by
 obtain⟨ao,cap,rfl,-,-,b,o,h3,h4⟩:=h;rw[hn.out] at h3 h4 ⊢;obtain⟨W,hW⟩:∃ W,W=w.alloc (.cells #[.bool s1,.slice ao n cap,.int .i64 e] 84):=⟨_,rfl⟩;have hBW:Bw w W:=by rw[hW];exact(xL1 _ _).alloc (xL0 _) _
 have HB:Hid (Bw w W):=hBW;have hbx:W.heap[w.heap.size]?=some (.cells #[.bool s1,.slice ao n cap,.int .i64 e] 84 (0,0)):=by rw[hW];exact xW8 _ _
 obtain⟨⟨c0,c1,c2⟩,-⟩:=qQ1 hbx;have g4:∀ i,i<n→W.cell? ⟨b,o+i,none⟩=some (.int .u32 (dg x i:Nat)):=fun i hi=>(hBW.cell (World.block_lt_of_cell? _ _ (h4 i hi))).trans (h4 i hi);clear hbx hBW h4
 go_enter Tryz.func156,Tryz.ntmps156
 go_upto_region 1 with fail;rw[←hW];clear hW
 go_wp2
 go_loop [3,9] (fun c s=>∃ i:Nat,i≤n∧c=.int .u64 (x % B^i:Nat)∧s=.int .i64 i) (fun _ s=>n - (intOf s).toNat)
 case atStart=>exact⟨0,xW5 _,by simp[Nat.mod_one],rfl⟩
 case round =>
  obtain⟨i,hi,rfl,rfl⟩:=hrel;by_cases hin:i<n
  ·obtain rfl:=h3 (by omega)
   have g:=g4 i hin;have hii:(i:Int)<(n:Int):=by omega
   have HS:Hid (x % B^(i+1)=x % B^i+B^i*dg x i∧x % B^i<B^i∧dg x i<B):=⟨qY4 x i,xW4 _ (qQ8 i),qZ4 _ _⟩;generalize hq:x % B^i=q at *;generalize hd:dg x i=d at *;clear g4 hq hd;rcases(show i=0∨i=1 by omega)with rfl|rfl
   ·rw[Nat.add_zero] at g;have hl0:(0:Int)<(n:Int):=by omega
    go_wp2;exact⟨⟨1,by omega,by rw[tf0 HS.out],rfl⟩,by simp[intOf];omega⟩
   ·have hl1:(1:Int)<(n:Int):=by omega
    go_wp2;exact⟨⟨2,by omega,by rw[tf1 HS.out],rfl⟩,by simp[intOf];omega⟩
  ·obtain rfl:i=n:=by omega
   have hfull:x % B^i=x:=xW3 ((qQ9 i x).1 (by rw[hn.out];omega))
   rw[hfull];clear h3 g4 hfull;obtain⟨k,rfl⟩:∃ k:Nat,e=(k:Int):=⟨e.toNat,by omega⟩
   have hx':x*2^k<18446744073709551616:=by have:=hx.out;rwa [xC9] at this
   have HWR:Hid (IntKind.u64.wrap ((x:Int)*2^k)=(x:Int)*2^k):=(by
    have e1:(x:Int)*2^k=((x*2^k:Nat):Int):=by simp
    rw[e1,xW7];omega:IntKind.u64.wrap ((x:Int)*2^k)=(x:Int)*2^k)
   clear hx'
   go_wp2
   go_ret;refine⟨?_,HB.out⟩
   show Ending.returned (Value.int .u64 (IntKind.u64.wrap ((x:Int)*2^k)))=_
   rw[HWR.out]
theorem yN1 {N:Nat} {X:Value} {w:World} (hN:N<18446744073709551616) (hX:PN w X (un (N:Int) 0)):Calls Tryz.prog 156 #[X] w fun r w'=>r=.returned (.int .u64 N)∧Bw w w':=by
 obtain⟨ao,cap,rfl,hI⟩:=hX;by_cases h0:N=0
 ·subst h0;have e0:un ((0:Nat):Int) 0=nilN:=un_0 0;rw[e0] at hI ⊢;have k:=yK4 false (.slice ao (dlen nilN.2.1) cap) 0 0 0 w hI qQ5 (by omega) (by omega) (by omega) (by decide:0*2^(0:Int).toNat<18446744073709551616)
  exact k
 ·have e2:(un (N:Int) 0).2.2=(tz N:Int):=by
   unfold un cn;rw[xC1,if_neg h0];simp
  have e1:(un (N:Int) 0).2.1=N / 2^tz N:=by
   unfold un cn;rw[xC1,if_neg h0]
  have sp:=(qX0 _ _ (xL0 _) h0).1;have hle:N / 2^tz N≤N:=xW0 _ _;have htz:tz N<64:=by
   rcases Nat.lt_or_ge (tz N) 64 with h|h
   ·exact h
   ·exfalso;have h1:2^64≤2^tz N:=xL6 (by decide) h
    have h2:2^tz N≤N:=Nat.le_of_dvd (by omega) ⟨_,sp.symm⟩
    have:(2:Nat)^64=18446744073709551616:=by decide
    omega
  have hm:(N / 2^tz N)*2^((tz N:Int)).toNat=N:=by rw[xC9,xC4];exact sp
  rw[e1] at hI;rw[e2,e1];have k:=yK4 (un (N:Int) 0).1 (.slice ao (dlen (N / 2^tz N)) cap) (tz N:Int) (N / 2^tz N) _ w hI rfl ((qQ9 2 _).2 (xL9 hle (by unfold B;omega))) (by omega) (by omega) (by rw[hm];exact hN)
  rw[hm] at k;exact k
structure MkB (w wr:World) (n:Nat) (f:Nat→Nat):Prop where
 below:Bw w wr
 size:wr.heap.size=w.heap.size+1
 row:wr.rowIs w.heap.size 5 n (fun i=>.int .u8 (f i:Nat))
theorem MkB.start (w:World) (n:Nat):MkB w (w.alloc (.cells (madeCells #[.int .u8 0] n) 5)) n (fun _=>0) :=
 ⟨(xL1 _ _).alloc (xL0 _) _,by simp,World.rowIs_made w _ n 5⟩
theorem MkB.cell {w wr:World} {n:Nat} {f:Nat→Nat} (h:MkB w wr n f) {i:Nat} (hi:i<n):wr.cell? ⟨w.heap.size,i,none⟩=some (.int .u8 (f i:Nat)):=h.row.cell hi
theorem MkB.frozen {w wr:World} {n:Nat} {f:Nat→Nat} (h:MkB w wr n f) (i:Nat):wr.frozen? ⟨w.heap.size,i,none⟩=false:=h.row.frozen i
theorem MkB.set {w wr:World} {n:Nat} {f:Nat→Nat} (h:MkB w wr n f) (i d:Nat):MkB w (wr.setCell ⟨w.heap.size,i,none⟩ (.int .u8 (d:Nat))) n (fun j=>if j=i then d else f j) :=
 ⟨h.below.setCell (xL0 _) _,by simp[h.size],(h.row.set i _).congr (fun j _=>by split <;> rfl)⟩
theorem MkB.congr {w wr:World} {n:Nat} {f g:Nat→Nat} (h:MkB w wr n f) (e:∀ i,i<n→f i=g i):MkB w wr n g :=
 ⟨h.below,h.size,h.row.congr (fun i hi=>by rw[e i hi])⟩
def ldB (n c j:Nat):Nat:=48+n / 10^(c - 1 - j) % 10
def ldL (n c:Nat):List UInt8:=(List.range c).map (fun j=>UInt8.ofNat (ldB n c j))
theorem Dlast (n c:Nat) (w:World) (hn:n<18446744073709551616) (hc0:0<c) (hc:c≤18) :
  Calls Tryz.prog 155 #[.int .u64 n,.int .i64 c] w fun r w'=>r=.returned (.string ⟨(ldL n c).toArray⟩)∧Bw w w':=by
 have hmk:=run_make_row' (P:=Tryz.prog) 129 5 (.int .u8 0) 1 Tryz.underlying129 (by kernel_rfl) rfl .i64 .i64 c (by omega) (by omega)
 have hw1:IntKind.i64.wrap ((c:Int) - 1)=(c:Int) - 1:=by rw[xW6];omega
 go_enter Tryz.func155,Tryz.ntmps155
 go_wp2;clear hmk
 go_loopw [0,10] (fun d v wr=>∃ i:Nat,i≤c∧d=.int .u64 (n / 10^i:Nat)∧v=.int .i64 i∧Hid (MkB w wr c (fun j=>if c - i≤j then ldB n c j else 0))) (fun _ v _=>c - (intOf v).toNat)
 case atStart=>exact⟨0,xW5 _,by rw[xC7,Nat.div_one],rfl,(MkB.start w c).congr fun j hj=>by rw[if_neg (by omega)]⟩
 case round =>
  obtain⟨i,hi,rfl,rfl,hM⟩:=hrel;by_cases hic:i<c
  ·obtain⟨k,hk⟩:∃ k:Nat,(c:Int) - 1 - (i:Int)=(k:Int):=⟨c - 1 - i,by omega⟩
   obtain⟨d,hd⟩:∃ d,d=n / 10^i:=⟨_,rfl⟩;rw[←hd];have hdn:d≤n:=by rw[hd];exact xW0 _ _
   have hii:(i:Int)<(c:Int):=by omega
   have hkc:(k:Int)<(c:Int):=by omega
   have hw2:IntKind.i64.wrap ((c:Int) - 1 - (i:Int))=(k:Int):=by rw[xW6,hk];omega
   have hr:(d:Int).tmod 10=((d % 10:Nat):Int):=by rw[Int.tmod_eq_emod_of_nonneg (by omega)];rfl
   have hq:(d:Int).tdiv 10=((d / 10:Nat):Int):=by rw[Int.tdiv_eq_ediv_of_nonneg (by omega)];rfl
   obtain⟨m,hm⟩:∃ m,m=d % 10:=⟨_,rfl⟩;obtain⟨q,hq'⟩:∃ q,q=d / 10:=⟨_,rfl⟩;rw[←hm] at hr;rw[←hq'] at hq;have hm10:m<10:=by omega
   have hw3:IntKind.u8.wrap (m:Int)=(m:Int):=by rw[IntKind.wrap_u8];omega
   have hw4:IntKind.u8.wrap (48+(m:Int))=((48+m:Nat):Int):=by rw[IntKind.wrap_u8];omega
   have hwq:IntKind.u64.wrap (q:Int)=(q:Int):=by rw[xW7];omega
   have hwm:IntKind.u64.wrap (m:Int)=(m:Int):=by rw[xW7];omega
   have hwi:IntKind.i64.wrap ((i:Int)+1)=(i:Int)+1:=by rw[xW6];omega
   have HD:Hid (d=n / 10^i∧m=d % 10∧q=d / 10∧k=c - 1 - i):=⟨hd,hm,hq',by omega⟩
   clear hd hm hq';have g:=hM.out.cell (i:=k) (by omega)
   have gf:=hM.out.frozen k
   go_wp2;obtain⟨e1,e2,e3,e4⟩:=HD.out;have hst:=hM.out.set k (48+m);refine⟨⟨i+1,by omega,?_,by push_cast;rfl,?_⟩,by simp[intOf];omega⟩
   ·rw[e3,e1,xC0,←xC5]
   ·have hst2:MkB w (wr.setCell ⟨w.heap.size,k,none⟩ (.int .u8 (48+(m:Int)))) c (fun j=>if j=k then 48+m else if c - i≤j then ldB n c j else 0):=by
     have e5:((48+m:Nat):Int)=48+(m:Int):=by omega
     rw[e5] at hst;exact hst
    refine hst2.congr fun j hj=>?_;by_cases hjk:j=k
    ·rw[if_pos hjk,if_pos (by omega)]
     unfold ldB;rw[show c - 1 - j=i by omega,←e1,←e2]
    ·rw[if_neg hjk];by_cases hji:c - i≤j
     ·rw[if_pos hji,if_pos (by omega)]
     ·rw[if_neg hji,if_neg (by omega)]
  ·obtain rfl:i=c:=by omega
   have hl:(ldL n i).length=i:=by simp[ldL]
   have hcv:=run_convert_bytes_back (P:=Tryz.prog) wr 129 9 5 ⟨w.heap.size,0,none⟩ i (ldL n i) Tryz.underlying129 Tryz.underlying5 Tryz.underlying9 (fun j hj=>by
    have hj':j<i:=by rw[hl] at hj;exact hj
    have g:=hM.out.cell hj';have ea:(⟨w.heap.size,0,none⟩:Addr).add j=⟨w.heap.size,j,none⟩:=by
     simp only[Addr.add,Nat.zero_add];split
     ·rename_i h;rw[h]
     ·rfl
    rw[ea,g,if_pos (by omega)]
    have hb:ldB n i j<256:=by unfold ldB;omega
    simp[ldL,xW3 hb])
   rw[hl] at hcv;have HB:Hid (Bw w wr):=hM.out.below;have hlt:¬ (i:Int)<(i:Int):=by omega
   clear hM hl
   go_wp2
   go_ret;exact⟨rfl,HB.out⟩
def wtL (N:Nat):Nat→List UInt8
 | 0 => []
 | k+1=>ldL (N / 10^(18*k) % 10^18) 18++wtL N k
theorem yA1 {Q:Exit→Act→World→Prop} {o:Oper} {K:Act→World→Prop} {a:Act} {w:World} {s:Tmp} {t:Tmp} {x y:ByteArray} (hsz:x.size+y.size≤9223372036854775807) (hop:o.op=.binOp .add 9 (.tmp s) (.tmp t) 9) (hs:a.tmps[s]?=some (.string x)) (ht:a.tmps[t]?=some (.string y)) (h:K (a.put o.dst (.string (x++y))) w):o.wp Tryz.prog a w K Q :=
 qZ7 (w':=w) (by simp[execOp,hop,Act.eval,hs,ht,go_sem,hsz]) h
theorem zX7 (N:Nat):∀ k,(wtL N k).length=18*k
 | 0=>rfl
 | k+1=>by
  unfold wtL;rw[xE0,zX7 N k];simp[ldL];omega
theorem yX1 {M N k:Nat} (h:k≤100000):(⟨(ldL M 18).toArray⟩:ByteArray).size+(⟨(wtL N k).toArray⟩:ByteArray).size≤9223372036854775807:=by
 have h1:(ldL M 18).length=18:=by simp[ldL]
 have h2:=zX7 N k;simp only[ByteArray.size,List.size_toArray,h1,h2];omega
theorem zX3 (s1:Bool) (ao1:Option Addr) (n1 cp1:Nat) (e1:Int) (N L:Nat) (ts:Bool×Nat×Int) (OUT:ByteArray) (w:World) (h1:PN w (.agg #[.bool s1,.slice ao1 n1 cp1,.int .i64 e1]) (un (N:Int) 0)) (hL:Hid (N<10^(18*L))) (hLb:Hid (L≤100000)) (hmin:Hid (∀ k,k<L→N / 10^(18*k)≠0))
  (k1:Hid (∀ W,Bw w W→Calls Tryz.prog 76 #[.int .i64 10,.int .i64 18] W fun r w'=>OutA W ts r w'))
  (k2:Hid (∀ W X (Y:Nat),Bw w W→PN W X (un (Y:Int) 0)→Y≤N→Calls Tryz.prog 47 #[X] W fun r w'=>r=.returned (.int .i64 (if Y=0 then 0 else 1))∧Bw W w'))
  (k3:Hid (∀ W X S Y,Bw w W→PN W X (un ((Y:Nat):Int) 0)→PN W S ts→Y≤N→Calls Tryz.prog 154 #[X,S,.int .i64 0] W fun r w'=>∃ (s5:Bool) (ao5:Option Addr) (n5 cp5:Nat) (e5:Int) (bx:Bool),r=.returned (.tuple #[.agg #[.bool s5,.slice ao5 n5 cp5,.int .i64 e5],.bool bx,.int .i64 0])∧PN w' (.agg #[.bool s5,.slice ao5 n5 cp5,.int .i64 e5]) (un ((Y / 10^18:Nat):Int) 0)∧Bw W w'))
  (k4:Hid (∀ W X S Y,Bw w W→PN W X (un ((Y:Nat):Int) 0)→PN W S ts→Y≤N→Calls Tryz.prog 52 #[X,S] W fun r w'=>OutA W (un ((Y*10^18:Nat):Int) 0) r w'))
  (k5:Hid (∀ W X Z' Y,Bw w W→PN W X (un ((Y:Nat):Int) 0)→PN W Z' (un ((Y / 10^18*10^18:Nat):Int) 0)→Y≤N→Calls Tryz.prog 157 #[X,Z'] W fun r w'=>OutA W (un ((Y % 10^18:Nat):Int) 0) r w'))
  (k6:Hid (∀ W,Calls Tryz.prog 158 #[.string ⟨(wtL N L).toArray⟩,.string ⟨#[48]⟩] W fun r w'=>r=.returned (.string OUT)∧Bw W w')) :
  Calls Tryz.prog 105 #[.agg #[.bool s1,.slice ao1 n1 cp1,.int .i64 e1]] w fun r w'=>r=.returned (.string OUT)∧Bw w w':=by
 obtain⟨W,hW⟩:∃ W,W=w.alloc (.cells #[.bool s1,.slice ao1 n1 cp1,.int .i64 e1] 84):=⟨_,rfl⟩;have H0:Hid (PBx W w.heap.size s1 ao1 n1 cp1 e1 (un (N:Int) 0)∧Bw w W):=(by
  have hb:Bw w W:=by rw[hW];exact(xL1 _ _).alloc (xL0 _) _
  exact⟨⟨by rw[hW];exact xW8 _ _,h1.later hb⟩,hb⟩:_∧_)
 have kk:=k1.out W H0.out.2;clear k1 h1
 go_enter Tryz.func105,Tryz.ntmps105
 go_upto_region 1 with fail;rw[←hW];clear hW
 go_wp2_with fail;refine kk.mono ?_;rintro r w1 ⟨s2,ao2,n2,cp2,e2,rfl,hA,hb1⟩;clear kk;obtain⟨W1,hW1⟩:∃ W1,W1=w1.alloc (.cells #[.bool s2,.slice ao2 n2 cp2,.int .i64 e2] 84):=⟨_,rfl⟩;have hbV:Bw w1 W1:=by rw[hW1];exact(xL1 _ _).alloc (xL0 _) _
 have n6:W1.heap[w1.heap.size]?=some (.cells #[.bool s2,.slice ao2 n2 cp2,.int .i64 e2] 84 (0,0)):=by rw[hW1];exact xW8 _ _
 have hb01:Bw W W1:=hb1.trans (hbV.mono hb1.size)
 go_upto_region 2 with fail;rw[←hW1];clear hW1;have hA':=hA.later hbV;have hl:=H0.out.1.lt;have hsz:=hb1.size;clear hbV hA;generalize w1.heap.size=gqS at *;have H1:Hid (PBx W1 w.heap.size s1 ao1 n1 cp1 e1 (un (N:Int) 0)∧PBx W1 gqS s2 ao2 n2 cp2 e2 ts∧Bw w W1∧w.heap.size<gqS):=⟨H0.out.1.later hb01,⟨n6,hA'⟩,H0.out.2.trans (hb01.mono H0.out.2.size),by omega⟩
 clear H0 n6 hA' hb1 hb01 hl hsz
 go_wp2
 go_loopg [4] L (fun m v wr=>∃ (k:Nat) (s3:Bool) (ao3:Option Addr) (n3 cp3:Nat) (e3:Int),k+m=L∧v=.string ⟨(wtL N k).toArray⟩∧Hid (PBx wr w.heap.size s3 ao3 n3 cp3 e3 (un ((N / 10^(18*k):Nat):Int) 0)∧PBx wr gqS s2 ao2 n2 cp2 e2 ts∧Bw w wr∧w.heap.size<gqS))
 case atStart=>exact⟨0,s1,ao1,n1,cp1,e1,by omega,rfl,by rw[Nat.mul_zero,xC7,Nat.div_one];exact H1⟩
 case round =>
  obtain⟨k,s3,ao3,n3,cp3,e3,hk,rfl,HI⟩:=hrel;clear H1;obtain⟨Y,hY⟩:∃ Y,Y=N / 10^(18*k):=⟨_,rfl⟩;have HY:Hid (Y=N / 10^(18*k)∧Y≤N):=⟨hY,by rw[hY];exact xW0 _ _⟩
  have HI2:Hid (PBx wr w.heap.size s3 ao3 n3 cp3 e3 (un ((Y:Nat):Int) 0)∧PBx wr gqS s2 ao2 n2 cp2 e2 ts∧Bw w wr∧w.heap.size<gqS):=by rw[hY];exact HI
  have HK:Hid (k+gk=L):=hk;clear hY HI hk;obtain⟨⟨a0,a1,a2⟩,-⟩:=qQ1 HI2.out.1.1;have kk:=k2.out wr _ Y HI2.out.2.2.1 HI2.out.1.2 HY.out.2;by_cases hY0:Y=0
  ·rw[if_pos hY0] at kk;obtain rfl:k=L:=by
    rcases Nat.lt_or_ge k L with h|h
    ·exact absurd (HY.out.1 ▸ hY0) (hmin.out k h)
    ·have:=HK.out;omega
   clear hY0
   go_wp2_with fail;refine kk.mono ?_;rintro r w3 ⟨rfl,hb3⟩;have HB3:Hid (Bw w w3):=HI2.out.2.2.1.trans (hb3.mono HI2.out.2.2.1.size);clear kk hb3 a0 a1 a2 HI2;have kt:=k6.out w3
   go_wp2_with fail;refine kt.mono ?_;rintro r w4 ⟨rfl,hb4⟩;have HB4:Hid (Bw w w4):=HB3.out.trans (hb4.mono HB3.out.size);clear kt hb4
   go_wp2
   go_ret;exact⟨rfl,HB4.out⟩
  ·rw[if_neg hY0] at kk;have HY0:Hid (Y≠0):=hY0;clear hY0
   go_wp2_with fail;refine kk.mono ?_;rintro r w3 ⟨rfl,hb3⟩;have H3:Hid (PBx w3 w.heap.size s3 ao3 n3 cp3 e3 (un ((Y:Nat):Int) 0)∧PBx w3 gqS s2 ao2 n2 cp2 e2 ts∧Bw w w3∧w.heap.size<gqS):=⟨HI2.out.1.later hb3,HI2.out.2.1.later hb3,HI2.out.2.2.1.trans (hb3.mono HI2.out.2.2.1.size),HI2.out.2.2.2⟩;clear kk hb3 a0 a1 a2 HI2;obtain⟨⟨a0,a1,a2⟩,-⟩:=qQ1 H3.out.1.1;obtain⟨⟨b0,b1,b2⟩,-⟩:=qQ1 H3.out.2.1.1;have kk:=k3.out w3 _ _ Y H3.out.2.2.1 H3.out.1.2 H3.out.2.1.2 HY.out.2
   go_wp2_with fail;refine kk.mono ?_;rintro r w4 ⟨s5,ao5,n5,cp5,e5,bx,rfl,hA,hb4⟩;clear kk a0 a1 a2 b0 b1 b2;obtain⟨W4,hW4⟩:∃ W4,W4=w4.alloc (.cells #[.bool s5,.slice ao5 n5 cp5,.int .i64 e5] 84):=⟨_,rfl⟩;have hbV:Bw w4 W4:=by rw[hW4];exact(xL1 _ _).alloc (xL0 _) _
   have n6:W4.heap[w4.heap.size]?=some (.cells #[.bool s5,.slice ao5 n5 cp5,.int .i64 e5] 84 (0,0)):=by rw[hW4];exact xW8 _ _
   have hb34:Bw w3 W4:=hb4.trans (hbV.mono hb4.size)
   go_upto_region 5 with fail;rw[←hW4];clear hW4;have hA':=hA.later hbV;have hl:=H3.out.2.1.lt;have hsz:=hb4.size;clear hbV hA;generalize w4.heap.size=gqH at *;have H4:Hid (PBx W4 w.heap.size s3 ao3 n3 cp3 e3 (un ((Y:Nat):Int) 0)∧PBx W4 gqS s2 ao2 n2 cp2 e2 ts∧Bw w W4∧w.heap.size<gqS∧PBx W4 gqH s5 ao5 n5 cp5 e5 (un ((Y / 10^18:Nat):Int) 0)∧gqS<gqH):=⟨H3.out.1.later hb34,H3.out.2.1.later hb34,H3.out.2.2.1.trans (hb34.mono H3.out.2.2.1.size),H3.out.2.2.2,⟨n6,hA'⟩,by omega⟩
   clear H3 n6 hA' hb4 hb34 hl hsz;obtain⟨m1,m2,hBW,m3,m4,m5⟩:=H4.out;have HSZ:Hid ((⟨(ldL (Y % 10^18) 18).toArray⟩:ByteArray).size+(⟨(wtL N k).toArray⟩:ByteArray).size≤9223372036854775807):=yX1 (by have:=HK.out;have:=hLb.out;omega)
   refine qS9 qX7 9 [19,20,21,22,23,24,25,26,27] [[],[],[],[1,2],[0,3],[4],[5],[],[6,7]] W4 _ [isV (.agg #[.bool s3,.slice ao3 n3 cp3,.int .i64 e3]),isV (.agg #[.bool s5,.slice ao5 n5 cp5,.int .i64 e5]),isV (.agg #[.bool s2,.slice ao2 n2 cp2,.int .i64 e2]),isP (un ((Y / 10^18*10^18:Nat):Int) 0),isP (un ((Y % 10^18:Nat):Int) 0),isV (.int .u64 ((Y % 10^18:Nat):Int)),isV (.string ⟨(ldL (Y % 10^18) 18).toArray⟩),isV (.string ⟨(wtL N k).toArray⟩),isV (.string (⟨(ldL (Y % 10^18) 18).toArray⟩++⟨(wtL N k).toArray⟩))] (by kernel_rfl) ⟨qQ2 _,qQ2 _,qQ2 _,qX8 _,qX8 _,qQ2 _,qQ2 _,qQ2 _,qQ2 _,trivial⟩ ⟨rfl,by decide,by show ∀ s ∈ [19,20,21,22,23,24,25,26,27],s<31;decide⟩ ?_ ?_
   ·intro j hj o ho act U hb hoth hdep;have hj':j<9:=hj;have hbU:Bw w U:=hBW.trans (hb.mono hBW.size);have t1':act.tmps[(1:Nat)]?=some (Value.pointer (some ⟨w.heap.size,0,none⟩)):=(hoth 1 (by decide)).trans rfl
    have t3':act.tmps[(3:Nat)]?=some (Value.pointer (some ⟨gqS,0,none⟩)):=(hoth 3 (by decide)).trans rfl
    have t5':act.tmps[(5:Nat)]?=some (Value.pointer (some ⟨gqH,0,none⟩)):=(hoth 5 (by decide)).trans rfl
    have d1:=(qJ7 (qQ m1.1 hb (qQ6 m1.1))).1;have d3:=(qJ7 (qQ m2.1 hb (qQ6 m2.1))).1;have d5:=(qJ7 (qQ m4.1 hb (qQ6 m4.1))).1;rcases(by omega:j=0∨j=1∨j=2∨j=3∨j=4∨j=5∨j=6∨j=7∨j=8)with rfl|rfl|rfl|rfl|rfl|rfl|rfl|rfl|rfl
    ·obtain rfl:=xL2 ho;exact(qJ1 (f:=0) rfl t1' d1.1 d1.2.1 d1.2.2 ⟨_,rfl,rfl,xL1 _ _⟩)
    ·obtain rfl:=xL2 ho;exact(qJ1 (f:=0) rfl t5' d5.1 d5.2.1 d5.2.2 ⟨_,rfl,rfl,xL1 _ _⟩)
    ·obtain rfl:=xL2 ho;exact(qJ1 (f:=0) rfl t3' d3.1 d3.2.1 d3.2.2 ⟨_,rfl,rfl,xL1 _ _⟩)
    ·obtain rfl:=xL2 ho;have y1:act.tmps[(20:Nat)]?=_:=dV (hdep 1 (by simp[dL])) rfl
     have y2:act.tmps[(21:Nat)]?=_:=dV (hdep 2 (by simp[dL])) rfl
     refine(qZ1 rfl (qX2 Tryz.func52 (by kernel_rfl) (by kernel_rfl)) (map2 y1 y2) ?_)
     refine(k4.out U _ _ _ hbU (m4.2.later hb) (m2.2.later hb) (xW (xW0 _ _) HY.out.2)).mono ?_
     rintro r w' ⟨_,_,_,_,_,rfl,hA,hb'⟩;exact⟨_,rfl,_,rfl,hA,hb'⟩
    ·obtain rfl:=xL2 ho;have y0:act.tmps[(19:Nat)]?=_:=dV (hdep 0 (by simp[dL])) rfl
     obtain⟨u3,y3,v3⟩:=hdep 3 (by simp[dL])
     have y3':act.tmps[(22:Nat)]?=_:=y3;refine(qZ1 rfl (qX2 Tryz.func157 (by kernel_rfl) (by kernel_rfl)) (map2 y0 y3') ?_)
     refine(k5.out U _ _ _ hbU (m1.2.later hb) v3 HY.out.2).mono ?_
     rintro r w' ⟨_,_,_,_,_,rfl,hA,hb'⟩;exact⟨_,rfl,_,rfl,hA,hb'⟩
    ·obtain rfl:=xL2 ho;obtain⟨u4,y4,v4⟩:=hdep 4 (by simp[dL])
     have y4':act.tmps[(23:Nat)]?=_:=y4;refine(qZ1 rfl (qX2 Tryz.func156 (by kernel_rfl) (by kernel_rfl)) (qB8 y4') ?_)
     refine(yN1 (N:=Y % 10^18) (by omega) v4).mono ?_
     rintro r w' ⟨rfl,hb'⟩;exact⟨_,rfl,_,rfl,rfl,hb'⟩
    ·obtain rfl:=xL2 ho;have y5:act.tmps[(24:Nat)]?=_:=dV (hdep 5 (by simp[dL])) rfl
     refine(qZ1 rfl (qX2 Tryz.func155 (by kernel_rfl) (by kernel_rfl)) (yG7 y5) ?_)
     refine(Dlast (Y % 10^18) 18 U (by omega) (by omega) (by omega)).mono ?_
     rintro r w' ⟨rfl,hb'⟩;exact⟨_,rfl,_,rfl,rfl,hb'⟩
    ·obtain rfl:=xL2 ho;have t4':act.tmps[(4:Nat)]?=some (.string ⟨(wtL N k).toArray⟩):=(hoth 4 (by decide)).trans rfl
     exact(qZ5 rfl t4' ⟨_,rfl,rfl,xL1 _ _⟩)
    ·obtain rfl:=xL2 ho;have y6:act.tmps[(25:Nat)]?=_:=dV (hdep 6 (by simp[dL])) rfl
     have y7:act.tmps[(26:Nat)]?=_:=dV (hdep 7 (by simp[dL])) rfl
     exact(yA1 HSZ.out rfl y6 y7 ⟨_,rfl,rfl,xL1 _ _⟩)
   ·intro o ho u W5 hb5 hu;obtain rfl:=xL2 ho;have u8:u 8=.string (⟨(ldL (Y % 10^18) 18).toArray⟩++⟨(wtL N k).toArray⟩):=hu 8 (by decide)
    have H5:Hid (PBx W5 w.heap.size s3 ao3 n3 cp3 e3 (un ((Y:Nat):Int) 0)∧PBx W5 gqS s2 ao2 n2 cp2 e2 ts∧Bw w W5∧w.heap.size<gqS∧PBx W5 gqH s5 ao5 n5 cp5 e5 (un ((Y / 10^18:Nat):Int) 0)∧gqS<gqH):=⟨m1.later hb5,m2.later hb5,hBW.trans (hb5.mono hBW.size),m3,m4.later hb5,m5⟩;clear hu hb5 m1 m2 m3 m4 m5 hBW H4;simp only[putL,show List.range 9 = [0,1,2,3,4,5,6,7,8] from rfl,show List.range 9 = [0,1,2,3,4,5,6,7,8] from rfl,List.length_cons,List.length_nil,List.getD_cons_zero,List.getD_cons_succ,List.map_cons,List.map_nil,List.cons_append,List.nil_append,List.foldl_cons,List.foldl_nil,Nat.reduceLT,Nat.reduceMod,Nat.reduceDiv,Nat.reduceMul,Nat.reduceAdd,Nat.reduceEqDiff,reduceIte,Nat.one_ne_zero,Act.put,List.setIfInBounds_toArray,List.set_cons_zero,List.set_cons_succ];rw[u8];clear u8;refine qX3 rfl rfl ?_;simp only[Act.put,List.setIfInBounds_toArray,List.set_cons_zero,List.set_cons_succ];obtain⟨⟨a0,a1,a2⟩,-⟩:=qQ1 H5.out.2.2.2.2.1.1;obtain⟨⟨b0,b1,b2⟩,f0,f1,f2⟩:=qQ1 H5.out.1.1
    go_wp2_with fail;have hkL:k<L:=by
     rcases Nat.lt_or_ge k L with h|h
     ·exact h
     ·exfalso;refine HY0.out ?_;rw[HY.out.1];exact Nat.div_eq_of_lt (xL8 hL.out (xL6 (by decide) (by omega)))
    have eY:Y / 10^18=N / 10^(18*(k+1)):=by
     rw[HY.out.1,xC0,←xC3,Nat.mul_succ]
    have e18:(10:Nat)^18=1000000000000000000:=by decide
    go_roundg (gk - 1)
    case measure=>have:=HK.out;omega
    case rel =>
     obtain⟨q1,q2,q3,q4,q5,q6⟩:=H5.out;refine⟨k+1,s5,ao5,n5,cp5,e5,by have:=HK.out;omega,?_,?_⟩
     ·rw[qY3];show Value.string _=Value.string ⟨(ldL (N / 10^(18*k) % 10^18) 18++wtL N k).toArray⟩
      rw[←HY.out.1,e18]
     ·rw[←eY];refine⟨⟨qX4 _ _ _ q1.1,qF2 q5.2 q1.1 _ _ _⟩,⟨(qU3 _ _ _ (by omega)).trans q2.1,qF2 q2.2 q1.1 _ _ _⟩,qQ3 q3 (xL0 _) _ _ _,q4⟩
def nzL (n:Int):List UInt8:=List.replicate n.toNat 48
theorem qA1 (n:Int):(nzL n).length=n.toNat:=by simp[nzL]
theorem yM2 (n:Int) (w:World) (hn : -100000≤n∧n≤100000)
  (kR:∀ W,Calls Tryz.prog 164 #[.string ⟨#[48]⟩,.int .i64 (max 0 n)] W fun r w'=>r=.returned (.string ⟨(nzL n).toArray⟩)∧Bw W w') :
  Calls Tryz.prog 109 #[.int .i64 n] w fun r w'=>r=.returned (.string ⟨(nzL n).toArray⟩)∧Bw w w':=by
 have kk:=kR w
 go_enter Tryz.func109,Tryz.ntmps109
 go_wp2_with fail;refine kk.mono ?_;rintro r w1 ⟨rfl,hb1⟩;have HB:Hid (Bw w w1):=hb1;clear kk hb1
 go_wp2
 go_ret;exact⟨rfl,HB.out⟩
theorem bsz (L:List UInt8):(⟨L.toArray⟩:ByteArray).size=L.length:=rfl
def ptL (d:List UInt8) (p:Int):List UInt8:=if p≤0 then nzL (1 - d.length)++d++nzL (-p) else
 let e:=nzL (p+1 - d.length)++d
 e.take (e.length - p.toNat)++46 :: e.drop (e.length - p.toNat)
def KNz (w:World):Prop:=∀ (n:Int) W,-100000≤n∧n≤100000→Bw w W→Calls Tryz.prog 109 #[.int .i64 n] W fun r w'=>r=.returned (.string ⟨(nzL n).toArray⟩)∧Bw W w'
theorem zR0 (d:List UInt8) (p:Int) (w:World) (hd:d.length≤20000) (hp:p≤0) (hp2 : -20000≤p) (kN:Hid (KNz w)) :
  Calls Tryz.prog 65 #[.string ⟨d.toArray⟩,.int .i64 p] w fun r w'=>r=.returned (.string ⟨(ptL d p).toArray⟩)∧Bw w w':=by
 have hsz:(⟨d.toArray⟩:ByteArray).size=d.length:=rfl;have hw1:IntKind.i64.wrap (1 - (d.length:Int))=1 - (d.length:Int):=by rw[xW6];omega
 have hw2:IntKind.i64.wrap (-p) = -p:=by rw[xW6];omega
 have kk:=kN.out (1 - (d.length:Int)) w (by omega) (xL1 _ _)
 have l1:=qA1 (1 - (d.length:Int));have l2:=qA1 (-p);have hc1:(⟨(nzL (1 - (d.length:Int))).toArray⟩:ByteArray).size+(⟨d.toArray⟩:ByteArray).size≤9223372036854775807:=by simp only[bsz];omega
 have hc2:((⟨(nzL (1 - (d.length:Int))).toArray⟩:ByteArray)++⟨d.toArray⟩).size+(⟨(nzL (-p)).toArray⟩:ByteArray).size≤9223372036854775807:=by rw[qY3];simp only[bsz,xE0];omega
 rw[hsz] at hc1;clear l1 l2
 go_enter Tryz.func65,Tryz.ntmps65
 go_wp2_with fail;refine kk.mono ?_;rintro r w1 ⟨rfl,hb1⟩;have HB:Hid (Bw w w1):=hb1;clear kk hb1;have kk:=kN.out (-p) w1 (by omega) HB.out
 go_wp2_with fail;refine kk.mono ?_;rintro r w2 ⟨rfl,hb2⟩;have HB2:Hid (Bw w w2):=HB.out.trans (hb2.mono HB.out.size);clear kk hb2
 go_wp2
 go_ret;refine⟨?_,HB2.out⟩
 show Ending.returned (Value.string _)=Ending.returned (Value.string _)
 rw[qY3,qY3];unfold ptL;rw[if_pos hp]
theorem qJ4 (L:List UInt8) (k:Nat):(⟨L.toArray⟩:ByteArray).extract 0 k=⟨(L.take k).toArray⟩:=by
 apply ByteArray.ext
 simp[ByteArray.extract,ByteArray.copySlice]
theorem qJ0 (L:List UInt8) (k:Nat):(⟨L.toArray⟩:ByteArray).extract k L.length=⟨(L.drop k).toArray⟩:=by
 apply ByteArray.ext
 simp[ByteArray.extract,ByteArray.copySlice];rw[List.take_of_length_le (by simp)]
theorem zR (d E:List UInt8) (p:Int) (q:Nat) (w:World) (hd:d.length≤20000) (hp:¬ p≤0) (hp2:p≤20000) (hE:Hid (E=nzL (p+1 - d.length)++d)) (hq:Hid ((E.length:Int) - p=(q:Int))) (kN:Hid (KNz w)) :
  Calls Tryz.prog 65 #[.string ⟨d.toArray⟩,.int .i64 p] w fun r w'=>r=.returned (.string ⟨(E.take q++46 :: E.drop q).toArray⟩)∧Bw w w':=by
 have hsz:(⟨d.toArray⟩:ByteArray).size=d.length:=rfl;have hw1:IntKind.i64.wrap (p+1)=p+1:=by rw[xW6];omega
 have hw2:IntKind.i64.wrap (p+1 - (d.length:Int))=p+1 - (d.length:Int):=by rw[xW6];omega
 have kk:=kN.out (p+1 - (d.length:Int)) w (by omega) (xL1 _ _)
 have l1:=qA1 (p+1 - (d.length:Int));have lE:E.length=(p+1 - (d.length:Int)).toNat+d.length:=by rw[hE.out,xE0,l1]
 have hc1:(⟨(nzL (p+1 - (d.length:Int))).toArray⟩:ByteArray).size+d.length≤9223372036854775807:=by simp only[bsz];omega
 have eC:(⟨(nzL (p+1 - (d.length:Int))).toArray⟩:ByteArray)++⟨d.toArray⟩=⟨E.toArray⟩:=by rw[qY3,←hE.out]
 have hszE:(⟨E.toArray⟩:ByteArray).size=E.length:=rfl;have hw3:IntKind.i64.wrap ((E.length:Int) - p)=(q:Int):=by rw[hq.out,xW6];have:=hq.out;omega
 have hqE:(q:Int)≤(E.length:Int):=by have:=hq.out;omega
 have hqE':q≤E.length:=by omega
 have HQ:Hid (q≤E.length∧E.length≤60000):=⟨hqE',by omega⟩
 have hc2:((⟨E.toArray⟩:ByteArray).extract 0 q).size+(⟨#[46]⟩:ByteArray).size≤9223372036854775807:=by
  rw[qJ4,bsz,List.length_take,show(⟨#[46]⟩:ByteArray).size=1 from rfl];have:=HQ.out;omega
 have hc3:((⟨E.toArray⟩:ByteArray).extract 0 q++⟨#[46]⟩).size+((⟨E.toArray⟩:ByteArray).extract q E.length).size≤9223372036854775807:=by
  rw[qJ4,qJ0,show(⟨#[46]⟩:ByteArray)=⟨[46].toArray⟩from rfl,qY3,bsz,bsz,xE0,List.length_take,List.length_drop];have:=HQ.out;simp;omega
 have hq0:(0:Int)≤(q:Int):=by omega
 clear l1 lE
 go_enter Tryz.func65,Tryz.ntmps65
 go_wp2_with fail;refine kk.mono ?_;rintro r w1 ⟨rfl,hb1⟩;have HB:Hid (Bw w w1):=hb1;clear kk hb1
 go_upto_region 5 with fail
 go_quiet (fail)
 go_wp2
 go_ret;refine⟨?_,qD3 HB.out nq⟩
 show Ending.returned (Value.string _)=Ending.returned (Value.string _)
 rw[qJ4,qJ0,show(⟨#[46]⟩:ByteArray)=⟨[46].toArray⟩from rfl,qY3,qY3,List.append_assoc];rfl
theorem yM1 {d:List UInt8} {p:Int} {w:World} (hd:d.length≤20000) (hp : -20000≤p∧p≤20000) (kN:KNz w) :
  Calls Tryz.prog 65 #[.string ⟨d.toArray⟩,.int .i64 p] w fun r w'=>r=.returned (.string ⟨(ptL d p).toArray⟩)∧Bw w w':=by
 by_cases h:p≤0
 ·exact zR0 d p w hd h hp.1 kN
 ·have l1:=qA1 (p+1 - (d.length:Int));have lE:(nzL (p+1 - d.length)++d).length=(p+1 - (d.length:Int)).toNat+d.length:=by rw[xE0,l1]
  have k:=zR d (nzL (p+1 - d.length)++d) p ((nzL (p+1 - d.length)++d).length - p.toNat) w hd h hp.2 rfl (by show _=_;omega) kN
  unfold ptL;rw[if_neg h];exact k
end Go.Proofs.YtbanebginnakhaaGreatDoor
namespace Go.Proofs.YtbanebginnakhaaGreatDoor
open Go Go.RowKit Go.Fl64
def IxD:Prop:=∀ (s:ByteArray) (w:World),
  Calls Tryz.prog 114 #[.string s,.string ⟨#[46]⟩] w fun e w'=>e=.returned (.int .i64 (Lib.indexByte s.data.toList 46))∧w'=w
theorem yI6 (ki:IxD) (s:ByteArray) (w:World) (hs:s.size≤1099511627776) (i:Nat) (hi:Lib.indexByte s.data.toList 46=(i:Int)) (hi2:i<s.size) :
  Calls Tryz.prog 72 #[.string s,.string ⟨#[46]⟩] w fun r w'=>r=.returned (.tuple #[.string (s.extract 0 i),.string (s.extract (i+1) s.size),.bool true])∧Bw w w':=by
 have k:=ki s;clear ki;rw[hi] at k;have q0:(i:Int) ≥ 0:=by omega
 clear hi
 go_enter Tryz.func72,Tryz.ntmps72
 go_wp2_with (first|(go_at_call 114;refine(k _).mono ?_;rintro e w' ⟨rfl,hw'⟩;replace hw':=hw'.symm;subst hw')|fail)
 have q1:(0:Int)≤i∧(i:Int)≤(s.size:Int):=by omega
 have q2:(0:Int)≤(i:Int)+1∧(i:Int)+1≤(s.size:Int):=by omega
 have q3:((i:Int)+1).toNat=i+1:=by omega
 go_quiet (fail)
 have HB:Hid (Below w.heap.size w (w.drewN nq)):=qD3 (xL1 _ _) nq;generalize w.drewN nq=wd at *
 go_wp2_with fail;refine xW9 (results_tmp3 rfl _ _ _) rfl ?_;exact⟨rfl,HB.out⟩
theorem yI5 (ki:IxD) (s:ByteArray) (w:World) (hi:Lib.indexByte s.data.toList 46 = -1) :
  Calls Tryz.prog 72 #[.string s,.string ⟨#[46]⟩] w fun r w'=>r=.returned (.tuple #[.string s,.string ⟨#[]⟩,.bool false])∧Bw w w':=by
 have k:=ki s;clear ki;rw[hi] at k;clear hi
 go_enter Tryz.func72,Tryz.ntmps72
 go_wp2_with (first|(go_at_call 114;refine(k _).mono ?_;rintro e w' ⟨rfl,hw'⟩;replace hw':=hw'.symm;subst hw')|fail)
 refine xW9 (results_tmp3 rfl _ _ _) rfl ?_;exact⟨rfl,xL1 _ _⟩
def zV (s:ByteArray):ByteArray:=if Lib.indexByte s.data.toList 46<0 then s else s.extract 0 (Lib.indexByte s.data.toList 46).toNat
def zJ9 (s:ByteArray):ByteArray:=if Lib.indexByte s.data.toList 46<0 then⟨#[]⟩else s.extract ((Lib.indexByte s.data.toList 46).toNat+1) s.size
theorem ixbD (l:List UInt8) (c:UInt8):Lib.indexByte l c = -1∨∃ i:Nat,Lib.indexByte l c=(i:Int)∧i<l.length:=by
 induction l with
 | nil=>left;rfl
 | cons b l ih =>
  unfold Lib.indexByte;by_cases h1:(b==c)=true
  ·rw[if_pos h1];right;exact⟨0,rfl,by simp⟩
  ·rw[if_neg h1];rcases ih with h2|⟨i,h2,h3⟩
   ·left;rw[h2];rfl
   ·right
    refine⟨i+1,?_,by rw[List.length_cons];omega⟩
    rw[h2,if_neg (by rw[beq_iff_eq];omega)]
    omega
theorem lcutD (ki:IxD) (s:ByteArray) (w:World) (hs:s.size≤1099511627776) :
  Calls Tryz.prog 72 #[.string s,.string ⟨#[46]⟩] w fun r w'=>∃ b,r=.returned (.tuple #[.string (zV s),.string (zJ9 s),.bool b])∧Bw w w':=by
 rcases ixbD s.data.toList 46 with h|⟨i,h,h2⟩
 ·refine(yI5 ki s w h).mono ?_
  rintro r w' ⟨rfl,hb⟩;refine⟨false,?_,hb⟩
  unfold zV zJ9;rw[h,if_pos (by decide),if_pos (by decide)]
 ·have h3:s.data.toList.length=s.size:=by rw[Array.length_toList];rfl
  refine(yI6 ki s w hs i h (by omega)).mono ?_
  rintro r w' ⟨rfl,hb⟩;refine⟨true,?_,hb⟩
  unfold zV zJ9;rw[h,if_neg (by omega),if_neg (by omega),xC9]
theorem scutD (ki:IxD) (s:ByteArray) (w:World) (hs:s.size≤1099511627776) :
  Calls Tryz.prog 44 #[.string s,.string ⟨#[46]⟩] w fun r w'=>∃ b,r=.returned (.tuple #[.string (zV s),.string (zJ9 s),.bool b])∧Bw w w':=by
 have k:=lcutD ki s w hs;clear ki;generalize zV s=A at *;generalize zJ9 s=C at *
 go_enter Tryz.func44,Tryz.ntmps44
 go_wp2_with fail;refine k.mono ?_;rintro r w1 ⟨b,rfl,hb⟩;have HB:Hid (Bw w w1):=hb;clear k hb
 go_wp2_with fail;refine xW9 (results_tmp3 rfl _ _ _) rfl ?_;exact⟨_,rfl,HB.out⟩
def cuA (L:List UInt8):List UInt8:=if Lib.indexByte L 46<0 then L else L.take (Lib.indexByte L 46).toNat
def cuB (L:List UInt8):List UInt8:=if Lib.indexByte L 46<0 then [] else L.drop ((Lib.indexByte L 46).toNat+1)
theorem xP (L:List UInt8):(cuA L).length+(cuB L).length≤L.length:=by
 unfold cuA cuB;split
 ·simp
 ·rw[List.length_take,List.length_drop];omega
theorem Dcut (L:List UInt8) (w:World) (hs:L.length≤1099511627776) :
  Calls Tryz.prog 44 #[.string ⟨L.toArray⟩,.string ⟨#[46]⟩] w fun r w'=>∃ b,r=.returned (.tuple #[.string ⟨(cuA L).toArray⟩,.string ⟨(cuB L).toArray⟩,.bool b])∧Bw w w':=by
 have k:=scutD (fun s w=>Tryz.stringslite_Index_one s 46 w) ⟨L.toArray⟩ w hs;have e1:zV ⟨L.toArray⟩=⟨(cuA L).toArray⟩:=by
  unfold zV cuA;show(if Lib.indexByte L 46<0 then _ else _)=_
  split
  ·rfl
  ·exact qJ4 L _
 have e2:zJ9 ⟨L.toArray⟩=⟨(cuB L).toArray⟩:=by
  unfold zJ9 cuB;show(if Lib.indexByte L 46<0 then _ else _)=_
  split
  ·rfl
  ·exact qJ0 L _
 rw[e1,e2] at k;exact k
end Go.Proofs.YtbanebginnakhaaGreatDoor
namespace Go.Proofs.YtbanebginnakhaaGreatDoor
open Go.RowKit Go.Fl64
def exL (d t:List UInt8):List UInt8:=d.take 1++(if 1<d.length then 46 :: d.drop 1 else [])++101 :: t
theorem yM5 (d t:List UInt8) (x:Int) (w:World) (hd0:0<d.length) (hd:d.length≤20000) (ht:Hid (t.length≤100))
  (kI:Hid (∀ W,Bw w W→Calls Tryz.prog 108 #[.int .i64 x] W fun r w'=>r=.returned (.string ⟨t.toArray⟩)∧Bw W w')) :
  Calls Tryz.prog 64 #[.string ⟨d.toArray⟩,.int .i64 x] w fun r w'=>r=.returned (.string ⟨(exL d t).toArray⟩)∧Bw w w':=by
 have hsz:(⟨d.toArray⟩:ByteArray).size=d.length:=rfl;have h1:(1:Int)≤(d.length:Int):=by omega
 obtain⟨A,hA⟩:∃ A:List UInt8,A=d.take 1++(if 1<d.length then 46 :: d.drop 1 else []):=⟨_,rfl⟩;have hAl:A.length≤20001:=by
  rw[hA,xE0,List.length_take];split
  ·rw[List.length_cons,List.length_drop];omega
  ·simp;omega
 have HA:Hid (A=d.take 1++(if 1<d.length then 46 :: d.drop 1 else [])):=hA;have kk:=kI.out w (xL1 _ _);have hc3:(⟨A.toArray⟩:ByteArray).size+(⟨#[101]⟩:ByteArray).size≤9223372036854775807:=by
  rw[bsz,show(⟨#[101]⟩:ByteArray).size=1 from rfl];omega
 have eC:(⟨A.toArray⟩:ByteArray)++⟨#[101]⟩=⟨(A ++ [101]).toArray⟩:=qY3 A [101];have hc4:(⟨(A ++ [101]).toArray⟩:ByteArray).size+(⟨t.toArray⟩:ByteArray).size≤9223372036854775807:=by
  rw[bsz,bsz,xE0];have:=ht.out;simp;omega
 have et:=qJ4 d 1;have ed:=qJ0 d 1;have fin:(⟨(A ++ [101]).toArray⟩:ByteArray)++⟨t.toArray⟩=⟨(exL d t).toArray⟩:=by
  rw[qY3,List.append_assoc];unfold exL;rw[←HA.out];rfl
 by_cases hl:1<d.length
 ·have hl':(1:Int)<(d.length:Int):=by omega
  rw[List.drop_one] at ed;have hc1:(⟨#[46]⟩:ByteArray).size+(⟨d.tail.toArray⟩:ByteArray).size≤9223372036854775807:=by
   rw[show(⟨#[46]⟩:ByteArray).size=1 from rfl,bsz,List.length_tail];omega
  have e1:(⟨#[46]⟩:ByteArray)++⟨d.tail.toArray⟩=⟨(46 :: d.tail).toArray⟩:=qY3 [46] d.tail;have hc2:(⟨(d.take 1).toArray⟩:ByteArray).size+(⟨(46 :: d.tail).toArray⟩:ByteArray).size≤9223372036854775807:=by
   rw[bsz,bsz,List.length_cons,List.length_take,List.length_tail];omega
  have e2:(⟨(d.take 1).toArray⟩:ByteArray)++⟨(46 :: d.tail).toArray⟩=⟨A.toArray⟩:=by rw[qY3,hA,if_pos hl,List.drop_one]
  clear hA hAl hl
  go_enter Tryz.func64,Tryz.ntmps64
  go_wp2_with fail;refine kk.mono ?_;rintro r w1 ⟨rfl,hb1⟩;have HB:Hid (Bw w w1):=hb1;clear kk hb1
  go_wp2
  go_ret;exact⟨rfl,HB.out⟩
 ·have hl':¬ (1:Int)<(d.length:Int):=by omega
  have e2:d.take 1=A:=by rw[hA,if_neg hl,List.append_nil]
  rw[e2] at et;clear hA hAl hl ed
  go_enter Tryz.func64,Tryz.ntmps64
  go_wp2_with fail;refine kk.mono ?_;rintro r w1 ⟨rfl,hb1⟩;have HB:Hid (Bw w w1):=hb1;clear kk hb1
  go_wp2
  go_ret;exact⟨rfl,HB.out⟩
def sgL (s:Bool) (t:List UInt8):List UInt8:=if s then 45 :: t else t
theorem zX4 (f gf:Nat) (c:Int) (b:Bool) (lb:Array Value) (t:List UInt8) (w:World) (hc:¬ c=1) (hc2:¬ c=2) (ht:t.length≤20000)
  (kC:∀ w,Calls Tryz.prog 36 #[.float .f64 f] w fun e w'=>e=.returned (.tuple #[.int .i64 c,.bool b])∧w'=w)
  (eg:∀ args w,(callFunc gf args).run Tryz.prog w=.ok (.enter gf args) w)
  (kT:Calls Tryz.prog gf lb w fun r w'=>r=.returned (.string ⟨t.toArray⟩)∧Bw w w') :
  Calls Tryz.prog 60 #[.float .f64 f,.func (.func gf) #[] lb] w fun r w'=>r=.returned (.string ⟨(sgL b t).toArray⟩)∧Bw w w':=by
 have e1:(⟨#[45]⟩:ByteArray)++⟨t.toArray⟩=⟨(45 :: t).toArray⟩:=qY3 [45] t;have h1:(⟨#[45]⟩:ByteArray).size+(⟨t.toArray⟩:ByteArray).size≤9223372036854775807:=by
  rw[show(⟨#[45]⟩:ByteArray).size=1 from rfl,bsz];omega
 cases b
 ·go_enter Tryz.func60,Tryz.ntmps60
  go_wp2_with (first|(go_at_call 36;refine(kC _).mono ?_;rintro e w' ⟨rfl,rfl⟩))
  refine kT.mono ?_;rintro r w1 ⟨rfl,hb1⟩;have HB:Hid (Below _ _ w1):=hb1;clear kT hb1
  go_wp2
  go_ret;exact⟨rfl,HB.out⟩
 ·go_enter Tryz.func60,Tryz.ntmps60
  go_wp2_with (first|(go_at_call 36;refine(kC _).mono ?_;rintro e w' ⟨rfl,rfl⟩))
  refine kT.mono ?_;rintro r w1 ⟨rfl,hb1⟩;have HB:Hid (Below _ _ w1):=hb1;clear kT hb1
  go_wp2
  go_ret;exact⟨rfl,HB.out⟩
theorem qI1 {w V:World} {g:Nat} {v:Value} {T:TypeId} (h:w.heap[g]?=some (.cells #[v] T (0,0))) (hb:Bw w V):V.cell? ⟨g,0,none⟩=some (v):=by
 have h2:=qQ h hb (qQ6 h);simp[World.cell?,h2]
theorem xF8 {a:Act} {s t r:Tmp} {v u c:Value} (h:a.tmps[s]?=some v) (h':a.tmps[t]?=some u) (h2:a.tmps[r]?=some c) : #[Operand.tmp s,Operand.tmp t,Operand.tmp r].map a.eval = #[v,u,c]:=by simp[qZ0 h,qZ0 h',qZ0 h2]
theorem qW1 (f:Nat) (t:List UInt8) (w:World)
  (kT:Hid (∀ W g1,Bw w W→W.heap[g1]?=some (.cells #[.float .f64 f] 34 (0,0)) →
   Calls Tryz.prog 60 #[.float .f64 f,.func (.func 61) #[] #[.pointer (some ⟨g1,0,none⟩)]] W fun r w'=>r=.returned (.string ⟨t.toArray⟩)∧Bw W w')) :
  Calls Tryz.prog 37 #[.float .f64 f] w fun r w'=>r=.returned (.string ⟨t.toArray⟩)∧Bw w w':=by
 obtain⟨W,hW⟩:∃ W,W=w.alloc (.cells #[.float .f64 f] 34):=⟨_,rfl⟩;have m1:W.heap[w.heap.size]?=some (.cells #[.float .f64 f] 34 (0,0)):=by rw[hW];exact xW8 _ _
 have m4:Bw w W:=by rw[hW];exact(xL1 _ _).alloc (xL0 _) _
 have c1:=qI1 m1 (xL1 _ _);have HB:Hid (Bw w W):=m4;have kk:=kT.out W _ m4 m1;clear m1 m4 kT
 go_enter Tryz.func37,Tryz.ntmps37
 go_upto_region 1 with fail;rw[←hW];clear hW
 go_wp2_with (first|(go_at_call 60;refine kk.mono ?_;rintro r w1 ⟨rfl,hb1⟩))
 go_ret;exact⟨rfl,HB.out.trans (hb1.mono HB.out.size)⟩
end Go.Proofs.YtbanebginnakhaaGreatDoor
